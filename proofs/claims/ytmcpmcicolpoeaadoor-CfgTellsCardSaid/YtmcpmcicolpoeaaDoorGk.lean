/- Ways to write values as bytes and to read them again: what each owes, how they are put together. Plain: no program stands here. -/
import Derived.Laws.BitsAllLaws
namespace Go.Proofs.YtmcpmcicolpoeaaDoor

abbrev By := List UInt8
/-- A number as m bytes, the highest ahead; the number that bytes are. -/
def be : Nat → Nat → By
  | 0, _ => []
  | m + 1, n => be m (n / 256) ++ [UInt8.ofNat (n % 256)]
def val (l : By) : Nat := l.foldl (fun a x => a * 256 + x.toNat) 0
theorem be_len : ∀ m n, (be m n).length = m
  | 0, _ => rfl
  | m + 1, n => by simp [be, be_len m]
theorem val_snoc (l : By) (x : UInt8) : val (l ++ [x]) = val l * 256 + x.toNat := by simp [val]
theorem val_be : ∀ m n, n < 256 ^ m → val (be m n) = n
  | 0, n, h => by
    have : n = 0 := by simpa using h
    subst this; rfl
  | m + 1, n, h => by
    rw [be, val_snoc, val_be m (n / 256) (by rw [Nat.pow_succ] at h; omega)]
    have : (UInt8.ofNat (n % 256)).toNat = n % 256 := by simp
    rw [this]; omega
theorem rev_ind {P : By → Prop} (h0 : P []) (h1 : ∀ l x, P l → P (l ++ [x])) (l : By) : P l := by
  rw [← List.reverse_reverse l]
  induction l.reverse with
  | nil => exact h0
  | cons x t ih => rw [List.reverse_cons]; exact h1 _ _ ih
theorem val_lt (l : By) : val l < 256 ^ l.length := by
  refine rev_ind (P := fun l => val l < 256 ^ l.length) (by simp [val]) (fun l x ih => ?_) l
  have := x.toNat_lt
  rw [val_snoc, List.length_append, List.length_singleton, Nat.pow_succ]; omega
theorem be_val (l : By) : be l.length (val l) = l := by
  refine rev_ind (P := fun l => be l.length (val l) = l) rfl (fun l x ih => ?_) l
  have := x.toNat_lt
  rw [List.length_append, List.length_singleton, be, val_snoc, show (val l * 256 + x.toNat) / 256 = val l by omega, show (val l * 256 + x.toNat) % 256 = x.toNat by omega, ih]
  simp
/-- A way to write values as bytes (or an error's number), and to read them from a place on (or an error and its place). -/
structure Cod (α : Type) where
  put : α → Except Nat By
  get : By → Nat → Except (Nat × Nat) (α × Nat)
/-- What it owes. -/
structure Cod.Ok {α : Type} (c : Cod α) : Prop where
  back : ∀ a bs, c.put a = .ok bs → ∀ pre post : By, c.get (pre ++ bs ++ post) pre.length = .ok (a, pre.length + bs.length)
  once : ∀ (b : By) p a q, p ≤ b.length → c.get b p = .ok (a, q) → p ≤ q ∧ q ≤ b.length ∧ c.put a = .ok ((b.drop p).take (q - p))
  cuts : ∀ a bs, c.put a = .ok bs → ∀ (pre : By) k, k < bs.length → ∃ p, c.get (pre ++ bs.take k) pre.length = .error (141, p) ∧ p ≤ pre.length + k
/-- m bytes that are taken as a whole. -/
def raw {α : Type} (m : Nat) (enc : α → Except Nat By) (dec : By → Except Nat α) : Cod α where
  put := enc
  get b p := if p + m ≤ b.length then match dec ((b.drop p).take m) with
    | .ok a => .ok (a, p + m)
    | .error e => .error (e, p)
    else .error (141, p)
theorem raw_ok {α : Type} {m : Nat} {enc : α → Except Nat By} {dec : By → Except Nat α} (hl : ∀ a bs, enc a = .ok bs → bs.length = m) (hb : ∀ a bs, enc a = .ok bs → dec bs = .ok a) (ho : ∀ bs a, bs.length = m → dec bs = .ok a → enc a = .ok bs) : (raw m enc dec).Ok where
  back a bs h pre post := by
    have hm := hl a bs h
    have e : ((pre ++ bs ++ post).drop pre.length).take m = bs := by
      rw [List.append_assoc, List.drop_left, ← hm, List.take_left]
    show (if pre.length + m ≤ (pre ++ bs ++ post).length then _ else _) = _
    rw [if_pos (by simp; omega), e, hb a bs h, hm]
  once b p a q hp h := by
    change (if p + m ≤ b.length then _ else _) = _ at h
    by_cases hc : p + m ≤ b.length
    · rw [if_pos hc] at h
      cases hd : dec ((b.drop p).take m) with
      | error e => rw [hd] at h; cases h
      | ok a' =>
        rw [hd] at h
        cases h
        refine ⟨by omega, hc, ?_⟩
        rw [show p + m - p = m by omega]
        exact ho _ _ (by simp; omega) hd
    · rw [if_neg hc] at h; cases h
  cuts a bs h pre k hk := by
    have hm := hl a bs h
    refine ⟨pre.length, ?_, by omega⟩
    show (if pre.length + m ≤ (pre ++ bs.take k).length then _ else _) = _
    rw [if_neg (by simp; omega)]
/-- A number of m bytes from lo to hi. -/
def fld (m lo hi e : Nat) : Cod Int := raw m (fun z => if (lo : Int) ≤ z ∧ z ≤ (hi : Int) then .ok (be m z.toNat) else .error e) fun l => if lo ≤ val l ∧ val l ≤ hi then .ok (val l : Int) else .error e
theorem fld_ok {m lo hi e : Nat} (h : hi < 256 ^ m) : (fld m lo hi e).Ok := by
  refine raw_ok (fun z bs hz => ?_) (fun z bs hz => ?_) (fun bs z hl hz => ?_)
  · split at hz
    · cases hz; exact be_len _ _
    · cases hz
  · split at hz
    · rename_i hc
      cases hz
      obtain ⟨n, rfl⟩ := Int.eq_ofNat_of_zero_le (show 0 ≤ z by omega)
      rw [Int.toNat_natCast, val_be m n (by omega), if_pos (by omega)]
    · cases hz
  · split at hz
    · rename_i hc
      cases hz
      rw [if_pos (by omega), Int.toNat_natCast, ← hl, be_val]
    · cases hz
/-- One behind the other; what comes behind may hang on what was ahead. -/
def Cod.dep {α β : Type} (c : Cod α) (d : α → Cod β) : Cod (α × β) where
  put x := match c.put x.1 with
    | .ok l => match (d x.1).put x.2 with
      | .ok m => .ok (l ++ m)
      | .error e => .error e
    | .error e => .error e
  get b p := match c.get b p with
    | .ok (a, q) => match (d a).get b q with
      | .ok (y, r) => .ok ((a, y), r)
      | .error e => .error e
    | .error e => .error e
theorem Cod.dep_ok {α β : Type} {c : Cod α} {d : α → Cod β} (hc : c.Ok) (hd : ∀ a, (d a).Ok) : (c.dep d).Ok where
  back x bs h pre post := by
    obtain ⟨a, y⟩ := x
    change (match c.put a with | .ok l => _ | .error e => _) = _ at h
    cases h1 : c.put a with
    | error e => rw [h1] at h; cases h
    | ok l =>
      rw [h1] at h
      change (match (d a).put y with | .ok m => _ | .error e => _) = _ at h
      cases h2 : (d a).put y with
      | error e => rw [h2] at h; cases h
      | ok m =>
        rw [h2] at h
        cases h
        have g1 := hc.back a l h1 pre (m ++ post)
        have g2 := (hd a).back y m h2 (pre ++ l) post
        rw [show pre ++ (l ++ m) ++ post = pre ++ l ++ (m ++ post) by simp]
        rw [show pre ++ l ++ m ++ post = pre ++ l ++ (m ++ post) by simp, List.length_append] at g2
        show (match c.get _ _ with | .ok (a, q) => _ | .error e => _) = _
        rw [g1]
        show (match (d a).get _ _ with | .ok (y, r) => _ | .error e => _) = _
        rw [g2]
        simp [Nat.add_assoc]
  once b p x r hp h := by
    change (match c.get b p with | .ok (a, q) => _ | .error e => _) = _ at h
    cases h1 : c.get b p with
    | error e => rw [h1] at h; cases h
    | ok aq =>
      obtain ⟨a, q⟩ := aq
      rw [h1] at h
      change (match (d a).get b q with | .ok (y, r) => _ | .error e => _) = _ at h
      cases h2 : (d a).get b q with
      | error e => rw [h2] at h; cases h
      | ok yr =>
        obtain ⟨y, r'⟩ := yr
        rw [h2] at h
        cases h
        obtain ⟨k1, k2, k3⟩ := hc.once b p a q hp h1
        obtain ⟨k4, k5, k6⟩ := (hd a).once b q y r k2 h2
        refine ⟨by omega, k5, ?_⟩
        show (match c.put a with | .ok l => _ | .error e => _) = _
        rw [k3]
        show (match (d a).put y with | .ok m => _ | .error e => _) = _
        rw [k6]
        have e1 : r - p = (q - p) + (r - q) := by omega
        have e2 : b.drop q = (b.drop p).drop (q - p) := by rw [List.drop_drop]; congr 1; omega
        rw [e1, List.take_add, e2]
  cuts x bs h pre k hk := by
    obtain ⟨a, y⟩ := x
    change (match c.put a with | .ok l => _ | .error e => _) = _ at h
    cases h1 : c.put a with
    | error e => rw [h1] at h; cases h
    | ok l =>
      rw [h1] at h
      change (match (d a).put y with | .ok m => _ | .error e => _) = _ at h
      cases h2 : (d a).put y with
      | error e => rw [h2] at h; cases h
      | ok m =>
        rw [h2] at h
        cases h
        by_cases hkl : k < l.length
        · obtain ⟨p, g1, g2⟩ := hc.cuts a l h1 pre k hkl
          refine ⟨p, ?_, g2⟩
          rw [List.take_append_of_le_length (by omega)]
          show (match c.get _ _ with | .ok (a, q) => _ | .error e => _) = _
          rw [g1]
        · have hk2 : k - l.length < m.length := by simp at hk; omega
          have e : pre ++ (l ++ m).take k = pre ++ l ++ m.take (k - l.length) := by
            rw [List.take_append, List.take_of_length_le (by omega), List.append_assoc]
          have g1 := hc.back a l h1 pre (m.take (k - l.length))
          obtain ⟨p, g2, g3⟩ := (hd a).cuts y m h2 (pre ++ l) (k - l.length) hk2
          refine ⟨p, ?_, by simp at g3; omega⟩
          rw [e]
          show (match c.get _ _ with | .ok (a, q) => _ | .error e => _) = _
          rw [g1]
          rw [List.length_append] at g2
          show (match (d a).get _ _ with | .ok (y, r) => _ | .error e => _) = _
          rw [g2]
/-- Values told otherwise. -/
def Cod.map {α β : Type} (c : Cod α) (f : α → β) (g : β → α) : Cod β where
  put x := c.put (g x)
  get b p := match c.get b p with
    | .ok (a, q) => .ok (f a, q)
    | .error e => .error e
theorem Cod.map_ok {α β : Type} {c : Cod α} {f : α → β} {g : β → α} (hc : c.Ok) (hfg : ∀ x bs, c.put (g x) = .ok bs → f (g x) = x) (hgf : ∀ a bs, c.put a = .ok bs → g (f a) = a) : (c.map f g).Ok where
  back x bs h pre post := by
    show (match c.get _ _ with | .ok (a, q) => _ | .error e => _) = _
    rw [hc.back (g x) bs h pre post]
    show Except.ok (f (g x), _) = _
    rw [hfg x bs h]
  once b p x q hp h := by
    change (match c.get b p with | .ok (a, q) => _ | .error e => _) = _ at h
    cases h1 : c.get b p with
    | error e => rw [h1] at h; cases h
    | ok aq =>
      obtain ⟨a, q'⟩ := aq
      rw [h1] at h
      cases h
      obtain ⟨k1, k2, k3⟩ := hc.once b p a q hp h1
      refine ⟨k1, k2, ?_⟩
      show c.put (g (f a)) = _
      rw [hgf a _ k3]
      exact k3
  cuts x bs h pre k hk := by
    obtain ⟨p, g1, g2⟩ := hc.cuts (g x) bs h pre k hk
    refine ⟨p, ?_, g2⟩
    show (match c.get _ _ with | .ok (a, q) => _ | .error e => _) = _
    rw [g1]
/-- Nothing. -/
def nilC {α : Type} (a : α) (is : α → Bool) : Cod α where
  put x := if is x = true then .ok [] else .error 142
  get _ p := .ok (a, p)
theorem nil_ok {α : Type} {a : α} {is : α → Bool} (h : ∀ x, is x = true ↔ x = a) : (nilC a is).Ok where
  back x bs hx pre post := by
    change (if is x = true then _ else _) = _ at hx
    split at hx
    · rename_i hc
      cases hx
      rw [(h x).1 hc]; rfl
    · cases hx
  once b p x q hp hx := by
    cases hx
    refine ⟨Nat.le_refl _, hp, ?_⟩
    show (if is a = true then _ else _) = _
    rw [if_pos ((h a).2 rfl), Nat.sub_self, List.take_zero]
  cuts x bs hx pre k hk := by
    change (if is x = true then _ else _) = _ at hx
    split at hx
    · cases hx; cases hk
    · cases hx
/-- So many of a kind. -/
def listC {α : Type} (c : Cod α) : Nat → Cod (List α)
  | 0 => nilC [] List.isEmpty
  | n + 1 => {
      put := fun l => match l with
        | [] => .error 142
        | x :: xs => (c.dep fun _ => listC c n).put (x, xs)
      get := fun b p => match (c.dep fun _ => listC c n).get b p with
        | .ok (x, q) => .ok (x.1 :: x.2, q)
        | .error e => .error e }
theorem list_ok {α : Type} {c : Cod α} (hc : c.Ok) : ∀ n, (listC c n).Ok
  | 0 => nil_ok fun x => by cases x <;> simp
  | n + 1 => by
    have hd := Cod.dep_ok hc fun _ : α => list_ok hc n
    refine ⟨fun l bs h pre post => ?_, fun b p l q hp h => ?_, fun l bs h pre k hk => ?_⟩
    · cases l with
      | nil => cases h
      | cons x xs =>
        have := hd.back (x, xs) bs h pre post
        show (match (c.dep fun _ => listC c n).get _ _ with | .ok (x, q) => _ | .error e => _) = _
        rw [this]
    · change (match (c.dep fun _ => listC c n).get b p with | .ok (x, q) => _ | .error e => _) = _ at h
      cases h1 : (c.dep fun _ => listC c n).get b p with
      | error e => rw [h1] at h; cases h
      | ok xq =>
        obtain ⟨⟨x, xs⟩, q'⟩ := xq
        rw [h1] at h
        cases h
        exact hd.once b p (x, xs) q hp h1
    · cases l with
      | nil => cases h
      | cons x xs =>
        obtain ⟨p, g1, g2⟩ := hd.cuts (x, xs) bs h pre k hk
        refine ⟨p, ?_, g2⟩
        show (match (c.dep fun _ => listC c n).get _ _ with | .ok (x, q) => _ | .error e => _) = _
        rw [g1]
theorem list_len {α : Type} (c : Cod α) : ∀ n l bs, (listC c n).put l = .ok bs → l.length = n
  | 0, l, bs, h => by
    cases l with
    | nil => rfl
    | cons x xs => cases h
  | n + 1, l, bs, h => by
    cases l with
    | nil => cases h
    | cons x xs =>
      change (match c.put x with | .ok l => _ | .error e => _) = _ at h
      cases h1 : c.put x with
      | error e => rw [h1] at h; cases h
      | ok l =>
        rw [h1] at h
        change (match (listC c n).put xs with | .ok m => _ | .error e => _) = _ at h
        cases h2 : (listC c n).put xs with
        | error e => rw [h2] at h; cases h
        | ok m => simp [list_len c n xs m h2]
theorem dep_get {α β : Type} {c : Cod α} {d : α → Cod β} {b : By} {p r : Nat} {x : α × β} (h : (c.dep d).get b p = .ok (x, r)) : ∃ q, c.get b p = .ok (x.1, q) ∧ (d x.1).get b q = .ok (x.2, r) := by
  change (match c.get b p with | .ok (a, q) => _ | .error e => _) = _ at h
  cases h1 : c.get b p with
  | error e => rw [h1] at h; cases h
  | ok aq =>
    obtain ⟨a, q⟩ := aq
    rw [h1] at h
    change (match (d a).get b q with | .ok (y, r) => _ | .error e => _) = _ at h
    cases h2 : (d a).get b q with
    | error e => rw [h2] at h; cases h
    | ok yr =>
      obtain ⟨y, r'⟩ := yr
      rw [h2] at h
      cases h
      exact ⟨q, rfl, h2⟩
theorem list_get_len {α : Type} (c : Cod α) : ∀ n (b : By) p l q, (listC c n).get b p = .ok (l, q) → l.length = n
  | 0, b, p, l, q, h => by cases h; rfl
  | n + 1, b, p, l, q, h => by
    change (match (c.dep fun _ => listC c n).get b p with | .ok (x, q) => _ | .error e => _) = _ at h
    cases h1 : (c.dep fun _ => listC c n).get b p with
    | error e => rw [h1] at h; cases h
    | ok xq =>
      obtain ⟨⟨x, xs⟩, q'⟩ := xq
      rw [h1] at h
      cases h
      obtain ⟨r, _, h3⟩ := dep_get h1
      simp [list_get_len c n b r xs q h3]
end Go.Proofs.YtmcpmcicolpoeaaDoor
