/- Merged: Gk, Gc, Gs. -/
import Derived.Laws.BitsAllLaws
/- Ways to write values as bytes and to read them again: what each owes, how they are put together. Plain: no program stands here. -/
namespace Go.Proofs.Ytgnihceefpijiaa

abbrev By := List UInt8
/-- A number as m bytes, the highest ahead; the number that bytes are. -/
def be : Nat → Nat → By
  | 0, _ => []
  | m + 1, n => be m (n / 256) ++ [UInt8.ofNat (n % 256)]
def val (l : By) : Nat := l.foldl (fun a x => a * 256 + x.toNat) 0
theorem be_len : ∀ m n, (be m n).length = m
  | 0, _ => rfl
  | m + 1, n => by simp [be, be_len m]
theorem val_snoc (l : By) (x : UInt8) : val (l ++ [x]) = val l * 256 + x.toNat := by simp [val]
theorem val_be : ∀ m n, n < 256 ^ m → val (be m n) = n
  | 0, n, h => by
    have : n = 0 := by simpa using h
    subst this; rfl
  | m + 1, n, h => by
    rw [be, val_snoc, val_be m (n / 256) (by rw [Nat.pow_succ] at h; omega)]
    have : (UInt8.ofNat (n % 256)).toNat = n % 256 := by simp
    rw [this]; omega
theorem rev_ind {P : By → Prop} (h0 : P []) (h1 : ∀ l x, P l → P (l ++ [x])) (l : By) : P l := by
  rw [← List.reverse_reverse l]
  induction l.reverse with
  | nil => exact h0
  | cons x t ih => rw [List.reverse_cons]; exact h1 _ _ ih
theorem val_lt (l : By) : val l < 256 ^ l.length := by
  refine rev_ind (P := fun l => val l < 256 ^ l.length) (by simp [val]) (fun l x ih => ?_) l
  have := x.toNat_lt
  rw [val_snoc, List.length_append, List.length_singleton, Nat.pow_succ]; omega
theorem be_val (l : By) : be l.length (val l) = l := by
  refine rev_ind (P := fun l => be l.length (val l) = l) rfl (fun l x ih => ?_) l
  have := x.toNat_lt
  rw [List.length_append, List.length_singleton, be, val_snoc, show (val l * 256 + x.toNat) / 256 = val l by omega, show (val l * 256 + x.toNat) % 256 = x.toNat by omega, ih]
  simp
/-- A way to write values as bytes (or an error's number), and to read them from a place on (or an error and its place). -/
structure Cod (α : Type) where
  put : α → Except Nat By
  get : By → Nat → Except (Nat × Nat) (α × Nat)
/-- What it owes. -/
structure Cod.Ok {α : Type} (c : Cod α) : Prop where
  back : ∀ a bs, c.put a = .ok bs → ∀ pre post : By, c.get (pre ++ bs ++ post) pre.length = .ok (a, pre.length + bs.length)
  once : ∀ (b : By) p a q, p ≤ b.length → c.get b p = .ok (a, q) → p ≤ q ∧ q ≤ b.length ∧ c.put a = .ok ((b.drop p).take (q - p))
  cuts : ∀ a bs, c.put a = .ok bs → ∀ (pre : By) k, k < bs.length → ∃ p, c.get (pre ++ bs.take k) pre.length = .error (141, p) ∧ p ≤ pre.length + k
/-- m bytes that are taken as a whole. -/
def raw {α : Type} (m : Nat) (enc : α → Except Nat By) (dec : By → Except Nat α) : Cod α where
  put := enc
  get b p := if p + m ≤ b.length then match dec ((b.drop p).take m) with
    | .ok a => .ok (a, p + m)
    | .error e => .error (e, p)
    else .error (141, p)
theorem raw_ok {α : Type} {m : Nat} {enc : α → Except Nat By} {dec : By → Except Nat α} (hl : ∀ a bs, enc a = .ok bs → bs.length = m) (hb : ∀ a bs, enc a = .ok bs → dec bs = .ok a) (ho : ∀ bs a, bs.length = m → dec bs = .ok a → enc a = .ok bs) : (raw m enc dec).Ok where
  back a bs h pre post := by
    have hm := hl a bs h
    have e : ((pre ++ bs ++ post).drop pre.length).take m = bs := by
      rw [List.append_assoc, List.drop_left, ← hm, List.take_left]
    show (if pre.length + m ≤ (pre ++ bs ++ post).length then _ else _) = _
    rw [if_pos (by simp; omega), e, hb a bs h, hm]
  once b p a q hp h := by
    change (if p + m ≤ b.length then _ else _) = _ at h
    by_cases hc : p + m ≤ b.length
    · rw [if_pos hc] at h
      cases hd : dec ((b.drop p).take m) with
      | error e => rw [hd] at h; cases h
      | ok a' =>
        rw [hd] at h
        cases h
        refine ⟨by omega, hc, ?_⟩
        rw [show p + m - p = m by omega]
        exact ho _ _ (by simp; omega) hd
    · rw [if_neg hc] at h; cases h
  cuts a bs h pre k hk := by
    have hm := hl a bs h
    refine ⟨pre.length, ?_, by omega⟩
    show (if pre.length + m ≤ (pre ++ bs.take k).length then _ else _) = _
    rw [if_neg (by simp; omega)]
/-- A number of m bytes from lo to hi. -/
def fld (m lo hi e : Nat) : Cod Int := raw m (fun z => if (lo : Int) ≤ z ∧ z ≤ (hi : Int) then .ok (be m z.toNat) else .error e) fun l => if lo ≤ val l ∧ val l ≤ hi then .ok (val l : Int) else .error e
theorem fld_ok {m lo hi e : Nat} (h : hi < 256 ^ m) : (fld m lo hi e).Ok := by
  refine raw_ok (fun z bs hz => ?_) (fun z bs hz => ?_) (fun bs z hl hz => ?_)
  · split at hz
    · cases hz; exact be_len _ _
    · cases hz
  · split at hz
    · rename_i hc
      cases hz
      obtain ⟨n, rfl⟩ := Int.eq_ofNat_of_zero_le (show 0 ≤ z by omega)
      rw [Int.toNat_natCast, val_be m n (by omega), if_pos (by omega)]
    · cases hz
  · split at hz
    · rename_i hc
      cases hz
      rw [if_pos (by omega), Int.toNat_natCast, ← hl, be_val]
    · cases hz
/-- One behind the other; what comes behind may hang on what was ahead. -/
def Cod.dep {α β : Type} (c : Cod α) (d : α → Cod β) : Cod (α × β) where
  put x := match c.put x.1 with
    | .ok l => match (d x.1).put x.2 with
      | .ok m => .ok (l ++ m)
      | .error e => .error e
    | .error e => .error e
  get b p := match c.get b p with
    | .ok (a, q) => match (d a).get b q with
      | .ok (y, r) => .ok ((a, y), r)
      | .error e => .error e
    | .error e => .error e
theorem Cod.dep_ok {α β : Type} {c : Cod α} {d : α → Cod β} (hc : c.Ok) (hd : ∀ a, (d a).Ok) : (c.dep d).Ok where
  back x bs h pre post := by
    obtain ⟨a, y⟩ := x
    change (match c.put a with | .ok l => _ | .error e => _) = _ at h
    cases h1 : c.put a with
    | error e => rw [h1] at h; cases h
    | ok l =>
      rw [h1] at h
      change (match (d a).put y with | .ok m => _ | .error e => _) = _ at h
      cases h2 : (d a).put y with
      | error e => rw [h2] at h; cases h
      | ok m =>
        rw [h2] at h
        cases h
        have g1 := hc.back a l h1 pre (m ++ post)
        have g2 := (hd a).back y m h2 (pre ++ l) post
        rw [show pre ++ (l ++ m) ++ post = pre ++ l ++ (m ++ post) by simp]
        rw [show pre ++ l ++ m ++ post = pre ++ l ++ (m ++ post) by simp, List.length_append] at g2
        show (match c.get _ _ with | .ok (a, q) => _ | .error e => _) = _
        rw [g1]
        show (match (d a).get _ _ with | .ok (y, r) => _ | .error e => _) = _
        rw [g2]
        simp [Nat.add_assoc]
  once b p x r hp h := by
    change (match c.get b p with | .ok (a, q) => _ | .error e => _) = _ at h
    cases h1 : c.get b p with
    | error e => rw [h1] at h; cases h
    | ok aq =>
      obtain ⟨a, q⟩ := aq
      rw [h1] at h
      change (match (d a).get b q with | .ok (y, r) => _ | .error e => _) = _ at h
      cases h2 : (d a).get b q with
      | error e => rw [h2] at h; cases h
      | ok yr =>
        obtain ⟨y, r'⟩ := yr
        rw [h2] at h
        cases h
        obtain ⟨k1, k2, k3⟩ := hc.once b p a q hp h1
        obtain ⟨k4, k5, k6⟩ := (hd a).once b q y r k2 h2
        refine ⟨by omega, k5, ?_⟩
        show (match c.put a with | .ok l => _ | .error e => _) = _
        rw [k3]
        show (match (d a).put y with | .ok m => _ | .error e => _) = _
        rw [k6]
        have e1 : r - p = (q - p) + (r - q) := by omega
        have e2 : b.drop q = (b.drop p).drop (q - p) := by rw [List.drop_drop]; congr 1; omega
        rw [e1, List.take_add, e2]
  cuts x bs h pre k hk := by
    obtain ⟨a, y⟩ := x
    change (match c.put a with | .ok l => _ | .error e => _) = _ at h
    cases h1 : c.put a with
    | error e => rw [h1] at h; cases h
    | ok l =>
      rw [h1] at h
      change (match (d a).put y with | .ok m => _ | .error e => _) = _ at h
      cases h2 : (d a).put y with
      | error e => rw [h2] at h; cases h
      | ok m =>
        rw [h2] at h
        cases h
        by_cases hkl : k < l.length
        · obtain ⟨p, g1, g2⟩ := hc.cuts a l h1 pre k hkl
          refine ⟨p, ?_, g2⟩
          rw [List.take_append_of_le_length (by omega)]
          show (match c.get _ _ with | .ok (a, q) => _ | .error e => _) = _
          rw [g1]
        · have hk2 : k - l.length < m.length := by simp at hk; omega
          have e : pre ++ (l ++ m).take k = pre ++ l ++ m.take (k - l.length) := by
            rw [List.take_append, List.take_of_length_le (by omega), List.append_assoc]
          have g1 := hc.back a l h1 pre (m.take (k - l.length))
          obtain ⟨p, g2, g3⟩ := (hd a).cuts y m h2 (pre ++ l) (k - l.length) hk2
          refine ⟨p, ?_, by simp at g3; omega⟩
          rw [e]
          show (match c.get _ _ with | .ok (a, q) => _ | .error e => _) = _
          rw [g1]
          rw [List.length_append] at g2
          show (match (d a).get _ _ with | .ok (y, r) => _ | .error e => _) = _
          rw [g2]
/-- Values told otherwise. -/
def Cod.map {α β : Type} (c : Cod α) (f : α → β) (g : β → α) : Cod β where
  put x := c.put (g x)
  get b p := match c.get b p with
    | .ok (a, q) => .ok (f a, q)
    | .error e => .error e
theorem Cod.map_ok {α β : Type} {c : Cod α} {f : α → β} {g : β → α} (hc : c.Ok) (hfg : ∀ x bs, c.put (g x) = .ok bs → f (g x) = x) (hgf : ∀ a bs, c.put a = .ok bs → g (f a) = a) : (c.map f g).Ok where
  back x bs h pre post := by
    show (match c.get _ _ with | .ok (a, q) => _ | .error e => _) = _
    rw [hc.back (g x) bs h pre post]
    show Except.ok (f (g x), _) = _
    rw [hfg x bs h]
  once b p x q hp h := by
    change (match c.get b p with | .ok (a, q) => _ | .error e => _) = _ at h
    cases h1 : c.get b p with
    | error e => rw [h1] at h; cases h
    | ok aq =>
      obtain ⟨a, q'⟩ := aq
      rw [h1] at h
      cases h
      obtain ⟨k1, k2, k3⟩ := hc.once b p a q hp h1
      refine ⟨k1, k2, ?_⟩
      show c.put (g (f a)) = _
      rw [hgf a _ k3]
      exact k3
  cuts x bs h pre k hk := by
    obtain ⟨p, g1, g2⟩ := hc.cuts (g x) bs h pre k hk
    refine ⟨p, ?_, g2⟩
    show (match c.get _ _ with | .ok (a, q) => _ | .error e => _) = _
    rw [g1]
/-- Nothing. -/
def nilC {α : Type} (a : α) (is : α → Bool) : Cod α where
  put x := if is x = true then .ok [] else .error 142
  get _ p := .ok (a, p)
theorem nil_ok {α : Type} {a : α} {is : α → Bool} (h : ∀ x, is x = true ↔ x = a) : (nilC a is).Ok where
  back x bs hx pre post := by
    change (if is x = true then _ else _) = _ at hx
    split at hx
    · rename_i hc
      cases hx
      rw [(h x).1 hc]; rfl
    · cases hx
  once b p x q hp hx := by
    cases hx
    refine ⟨Nat.le_refl _, hp, ?_⟩
    show (if is a = true then _ else _) = _
    rw [if_pos ((h a).2 rfl), Nat.sub_self, List.take_zero]
  cuts x bs hx pre k hk := by
    change (if is x = true then _ else _) = _ at hx
    split at hx
    · cases hx; cases hk
    · cases hx
/-- So many of a kind. -/
def listC {α : Type} (c : Cod α) : Nat → Cod (List α)
  | 0 => nilC [] List.isEmpty
  | n + 1 => {
      put := fun l => match l with
        | [] => .error 142
        | x :: xs => (c.dep fun _ => listC c n).put (x, xs)
      get := fun b p => match (c.dep fun _ => listC c n).get b p with
        | .ok (x, q) => .ok (x.1 :: x.2, q)
        | .error e => .error e }
theorem list_ok {α : Type} {c : Cod α} (hc : c.Ok) : ∀ n, (listC c n).Ok
  | 0 => nil_ok fun x => by cases x <;> simp
  | n + 1 => by
    have hd := Cod.dep_ok hc fun _ : α => list_ok hc n
    refine ⟨fun l bs h pre post => ?_, fun b p l q hp h => ?_, fun l bs h pre k hk => ?_⟩
    · cases l with
      | nil => cases h
      | cons x xs =>
        have := hd.back (x, xs) bs h pre post
        show (match (c.dep fun _ => listC c n).get _ _ with | .ok (x, q) => _ | .error e => _) = _
        rw [this]
    · change (match (c.dep fun _ => listC c n).get b p with | .ok (x, q) => _ | .error e => _) = _ at h
      cases h1 : (c.dep fun _ => listC c n).get b p with
      | error e => rw [h1] at h; cases h
      | ok xq =>
        obtain ⟨⟨x, xs⟩, q'⟩ := xq
        rw [h1] at h
        cases h
        exact hd.once b p (x, xs) q hp h1
    · cases l with
      | nil => cases h
      | cons x xs =>
        obtain ⟨p, g1, g2⟩ := hd.cuts (x, xs) bs h pre k hk
        refine ⟨p, ?_, g2⟩
        show (match (c.dep fun _ => listC c n).get _ _ with | .ok (x, q) => _ | .error e => _) = _
        rw [g1]
theorem list_len {α : Type} (c : Cod α) : ∀ n l bs, (listC c n).put l = .ok bs → l.length = n
  | 0, l, bs, h => by
    cases l with
    | nil => rfl
    | cons x xs => cases h
  | n + 1, l, bs, h => by
    cases l with
    | nil => cases h
    | cons x xs =>
      change (match c.put x with | .ok l => _ | .error e => _) = _ at h
      cases h1 : c.put x with
      | error e => rw [h1] at h; cases h
      | ok l =>
        rw [h1] at h
        change (match (listC c n).put xs with | .ok m => _ | .error e => _) = _ at h
        cases h2 : (listC c n).put xs with
        | error e => rw [h2] at h; cases h
        | ok m => simp [list_len c n xs m h2]
theorem dep_get {α β : Type} {c : Cod α} {d : α → Cod β} {b : By} {p r : Nat} {x : α × β} (h : (c.dep d).get b p = .ok (x, r)) : ∃ q, c.get b p = .ok (x.1, q) ∧ (d x.1).get b q = .ok (x.2, r) := by
  change (match c.get b p with | .ok (a, q) => _ | .error e => _) = _ at h
  cases h1 : c.get b p with
  | error e => rw [h1] at h; cases h
  | ok aq =>
    obtain ⟨a, q⟩ := aq
    rw [h1] at h
    change (match (d a).get b q with | .ok (y, r) => _ | .error e => _) = _ at h
    cases h2 : (d a).get b q with
    | error e => rw [h2] at h; cases h
    | ok yr =>
      obtain ⟨y, r'⟩ := yr
      rw [h2] at h
      cases h
      exact ⟨q, rfl, h2⟩
theorem list_get_len {α : Type} (c : Cod α) : ∀ n (b : By) p l q, (listC c n).get b p = .ok (l, q) → l.length = n
  | 0, b, p, l, q, h => by cases h; rfl
  | n + 1, b, p, l, q, h => by
    change (match (c.dep fun _ => listC c n).get b p with | .ok (x, q) => _ | .error e => _) = _ at h
    cases h1 : (c.dep fun _ => listC c n).get b p with
    | error e => rw [h1] at h; cases h
    | ok xq =>
      obtain ⟨⟨x, xs⟩, q'⟩ := xq
      rw [h1] at h
      cases h
      obtain ⟨r, _, h3⟩ := dep_get h1
      simp [list_get_len c n b r xs q h3]
end Go.Proofs.Ytgnihceefpijiaa
/- Configurations: how they are written as bytes, and read. Plain: no program stands here. ko: whether 68 bytes are a key. -/
namespace Go.Proofs.Ytgnihceefpijiaa

theorem dep_put {α β : Type} {c : Cod α} {d : α → Cod β} {x : α × β} {bs : By} (h : (c.dep d).put x = .ok bs) : ∃ l m, c.put x.1 = .ok l ∧ (d x.1).put x.2 = .ok m ∧ bs = l ++ m := by
  change (match c.put x.1 with | .ok l => _ | .error e => _) = _ at h
  cases h1 : c.put x.1 with
  | error e => rw [h1] at h; cases h
  | ok l =>
    rw [h1] at h
    change (match (d x.1).put x.2 with | .ok m => _ | .error e => _) = _ at h
    cases h2 : (d x.1).put x.2 with
    | error e => rw [h2] at h; cases h
    | ok m => rw [h2] at h; cases h; exact ⟨l, m, rfl, rfl, rfl⟩
theorem fld_put {m lo hi e : Nat} {z : Int} {bs : By} (h : (fld m lo hi e).put z = .ok bs) : (lo : Int) ≤ z ∧ z ≤ (hi : Int) ∧ bs = be m z.toNat := by
  change (if (lo : Int) ≤ z ∧ z ≤ (hi : Int) then _ else _) = _ at h
  split at h
  · rename_i hc; cases h; exact ⟨hc.1, hc.2, rfl⟩
  · cases h
/-- A name's sign; a name. -/
def sign (c : UInt8) : Bool := (97 ≤ c && c ≤ 122) || (48 ≤ c && c ≤ 57) || c == 45
def nameOk (s : By) : Bool := s.all sign && decide (1 ≤ s.length) && decide (s.length ≤ 16)
theorem sign_ne {c : UInt8} (h : sign c = true) : c ≠ 0 := fun e => by subst e; revert h; decide
def nameE (s : By) : By := s ++ List.replicate (16 - s.length) 0
def nameD (l : By) : By := l.takeWhile fun c => c != 0
def nameC : Cod By := raw 16 (fun s => if nameOk s = true then .ok (nameE s) else .error 143) fun l => if nameOk (nameD l) = true ∧ (l.drop (nameD l).length).all (fun c => c == 0) = true then .ok (nameD l) else .error 143
theorem nameD_of (s : By) (n : Nat) (h : ∀ c ∈ s, c ≠ 0) : nameD (s ++ List.replicate n 0) = s := by
  unfold nameD
  rw [List.takeWhile_append_of_pos (fun c hc => by simpa using h c hc)]
  cases n with
  | zero => simp
  | succ n => simp [List.replicate_succ]
theorem zeros_of : ∀ (l : By), l.all (fun c => c == 0) = true → l = List.replicate l.length 0
  | [], _ => rfl
  | c :: cs, h => by
    simp only [List.all_cons, Bool.and_eq_true, beq_iff_eq] at h
    rw [List.length_cons, List.replicate_succ, ← zeros_of cs h.2, h.1]
theorem takeWhile_pre (p : UInt8 → Bool) : ∀ l : By, l.takeWhile p ++ l.drop (l.takeWhile p).length = l
  | [] => rfl
  | c :: cs => by
    cases h : p c with
    | true => simp [h, takeWhile_pre p cs]
    | false => simp [h]
theorem name_ok : nameC.Ok := by
  refine raw_ok (fun s bs h => ?_) (fun s bs h => ?_) (fun bs s hl h => ?_)
  · split at h
    · rename_i hn
      cases h
      simp only [nameOk, Bool.and_eq_true, decide_eq_true_eq] at hn
      simp [nameE]; omega
    · cases h
  · split at h
    · rename_i hn
      cases h
      have hs : ∀ c ∈ s, c ≠ 0 := fun c hc => sign_ne (by
        simp only [nameOk, Bool.and_eq_true] at hn
        exact List.all_eq_true.1 hn.1.1 c hc)
      have e := nameD_of s (16 - s.length) hs
      unfold nameE
      rw [e, if_pos ⟨hn, by simp⟩]
    · cases h
  · split at h
    · rename_i hc
      cases h
      rw [if_pos hc.1]
      have h1 := takeWhile_pre (fun c => c != 0) bs
      have h2 := zeros_of _ hc.2
      have h3 : (bs.drop (nameD bs).length).length = 16 - (nameD bs).length := by simp [hl]
      rw [h3] at h2
      unfold nameE
      rw [← h2]
      exact congrArg Except.ok h1
    · cases h
/-- The kinds of numbers. -/
def u64C : Cod Int := fld 8 0 18446744073709551615 144
def u32C : Cod Int := fld 4 0 4294967295 144
theorem u64_ok : u64C.Ok := fld_ok (by decide)
theorem u32_ok : u32C.Ok := fld_ok (by decide)
def boolC : Cod Bool := (fld 4 0 1 144).map (fun z => decide (z = 1)) (fun b => cond b 1 0)
theorem bool_ok : boolC.Ok := by
  refine Cod.map_ok (fld_ok (by decide)) (fun b _ _ => by cases b <;> rfl) (fun z bs h => ?_)
  obtain ⟨h1, h2, _⟩ := fld_put h
  have : z = 0 ∨ z = 1 := by omega
  rcases this with rfl | rfl <;> rfl
/-- What a configuration has. -/
structure Wi where
  ipa : Int
  pa : Int
  size : Int
  perm : Int
structure De where
  ipa : Int
  pa : Int
  size : Int
structure Ir where
  number : Int
  cpu : Int
  edge : Bool
structure En where
  guest : Int
  perm : Int
  ipa : Int
structure Ch where
  pa : Int
  size : Int
  a : En
  b : En
structure Gs where
  name : By
  must : Bool
  off : Int
  len : Int
  cpus : Int
  entry : Int
  dtb : Int
  key : By
  wins : List Wi
  devs : List De
  irqs : List Ir
  strs : List Int
structure Cf where
  ver : Int
  gs : List Gs
  chs : List Ch
def winC : Cod Wi := (u64C.dep fun _ => u64C.dep fun _ => u64C.dep fun _ => fld 4 0 7 144).map (fun x => ⟨x.1, x.2.1, x.2.2.1, x.2.2.2⟩) (fun w => (w.ipa, w.pa, w.size, w.perm))
theorem win_ok : winC.Ok := Cod.map_ok (Cod.dep_ok u64_ok fun _ => Cod.dep_ok u64_ok fun _ => Cod.dep_ok u64_ok fun _ => fld_ok (by decide)) (fun _ _ _ => rfl) (fun _ _ _ => rfl)
def devC : Cod De := (u64C.dep fun _ => u64C.dep fun _ => u64C).map (fun x => ⟨x.1, x.2.1, x.2.2⟩) (fun w => (w.ipa, w.pa, w.size))
theorem dev_ok : devC.Ok := Cod.map_ok (Cod.dep_ok u64_ok fun _ => Cod.dep_ok u64_ok fun _ => u64_ok) (fun _ _ _ => rfl) (fun _ _ _ => rfl)
def irqC : Cod Ir := ((fld 2 0 65535 144).dep fun _ => (fld 2 0 65535 144).dep fun _ => boolC).map (fun x => ⟨x.1, x.2.1, x.2.2⟩) (fun w => (w.number, w.cpu, w.edge))
theorem irq_ok : irqC.Ok := Cod.map_ok (Cod.dep_ok (fld_ok (by decide)) fun _ => Cod.dep_ok (fld_ok (by decide)) fun _ => bool_ok) (fun _ _ _ => rfl) (fun _ _ _ => rfl)
def endC : Cod En := ((fld 2 0 65535 144).dep fun _ => (fld 2 0 7 144).dep fun _ => u64C).map (fun x => ⟨x.1, x.2.1, x.2.2⟩) (fun w => (w.guest, w.perm, w.ipa))
theorem end_ok : endC.Ok := Cod.map_ok (Cod.dep_ok (fld_ok (by decide)) fun _ => Cod.dep_ok (fld_ok (by decide)) fun _ => u64_ok) (fun _ _ _ => rfl) (fun _ _ _ => rfl)
def chC : Cod Ch := (u64C.dep fun _ => u64C.dep fun _ => endC.dep fun _ => endC).map (fun x => ⟨x.1, x.2.1, x.2.2.1, x.2.2.2⟩) (fun w => (w.pa, w.size, w.a, w.b))
theorem ch_ok : chC.Ok := Cod.map_ok (Cod.dep_ok u64_ok fun _ => Cod.dep_ok u64_ok fun _ => Cod.dep_ok end_ok fun _ => end_ok) (fun _ _ _ => rfl) (fun _ _ _ => rfl)
section
variable (ko : By → Bool)
def keyC : Cod By := raw 68 (fun k => if k.length = 68 ∧ ko k = true then .ok k else .error 144) fun l => if ko l = true then .ok l else .error 144
theorem key_ok : (keyC ko).Ok := by
  refine raw_ok (fun s bs h => ?_) (fun s bs h => ?_) (fun bs s hl h => ?_)
  · split at h
    · rename_i hn; cases h; exact hn.1
    · cases h
  · split at h
    · rename_i hn; cases h; rw [if_pos hn.2]
    · cases h
  · split at h
    · rename_i hn; cases h; rw [if_pos ⟨hl, hn⟩]
    · cases h
/-- A guest's head: all ahead of its counts. -/
abbrev GH := By × Bool × Int × Int × Int × Int × Int × By
def ghC : Cod GH := nameC.dep fun _ => boolC.dep fun _ => u32C.dep fun _ => u32C.dep fun _ => u32C.dep fun _ => u64C.dep fun _ => u64C.dep fun _ => keyC ko
theorem gh_ok : (ghC ko).Ok := Cod.dep_ok name_ok fun _ => Cod.dep_ok bool_ok fun _ => Cod.dep_ok u32_ok fun _ => Cod.dep_ok u32_ok fun _ => Cod.dep_ok u32_ok fun _ => Cod.dep_ok u64_ok fun _ => Cod.dep_ok u64_ok fun _ => key_ok ko
def cntC : Cod (Int × Int × Int × Int) := (fld 2 1 16 142).dep fun _ => (fld 2 0 16 142).dep fun _ => (fld 2 0 64 142).dep fun _ => fld 2 0 32 142
theorem cnt_ok : cntC.Ok := Cod.dep_ok (fld_ok (by decide)) fun _ => Cod.dep_ok (fld_ok (by decide)) fun _ => Cod.dep_ok (fld_ok (by decide)) fun _ => fld_ok (by decide)
def lstC (n : Int × Int × Int × Int) : Cod (List Wi × List De × List Ir × List Int) := (listC winC n.1.toNat).dep fun _ => (listC devC n.2.1.toNat).dep fun _ => (listC irqC n.2.2.1.toNat).dep fun _ => listC u32C n.2.2.2.toNat
theorem lst_ok (n : Int × Int × Int × Int) : (lstC n).Ok := Cod.dep_ok (list_ok win_ok _) fun _ => Cod.dep_ok (list_ok dev_ok _) fun _ => Cod.dep_ok (list_ok irq_ok _) fun _ => list_ok u32_ok _
def guestC : Cod Gs := ((ghC ko).dep fun _ => cntC.dep lstC).map
  (fun x => ⟨x.1.1, x.1.2.1, x.1.2.2.1, x.1.2.2.2.1, x.1.2.2.2.2.1, x.1.2.2.2.2.2.1, x.1.2.2.2.2.2.2.1, x.1.2.2.2.2.2.2.2, x.2.2.1, x.2.2.2.1, x.2.2.2.2.1, x.2.2.2.2.2⟩)
  (fun g => ((g.name, g.must, g.off, g.len, g.cpus, g.entry, g.dtb, g.key), ((g.wins.length : Int), (g.devs.length : Int), (g.irqs.length : Int), (g.strs.length : Int)), g.wins, g.devs, g.irqs, g.strs))
theorem guest_ok : (guestC ko).Ok := by
  refine Cod.map_ok (Cod.dep_ok (gh_ok ko) fun _ => Cod.dep_ok cnt_ok lst_ok) (fun _ _ _ => rfl) (fun a bs h => ?_)
  obtain ⟨hd, ⟨n1, n2, n3, n4⟩, l1, l2, l3, l4⟩ := a
  obtain ⟨_, _, _, h1, _⟩ := dep_put h
  obtain ⟨_, _, h2, h3, _⟩ := dep_put h1
  obtain ⟨_, _, c1, h4, _⟩ := dep_put h2
  obtain ⟨_, _, c2, h5, _⟩ := dep_put h4
  obtain ⟨_, _, c3, c4, _⟩ := dep_put h5
  obtain ⟨_, _, k1, h6, _⟩ := dep_put h3
  obtain ⟨_, _, k2, h7, _⟩ := dep_put h6
  obtain ⟨_, _, k3, k4, _⟩ := dep_put h7
  have e1 := list_len _ _ _ _ k1
  have e2 := list_len _ _ _ _ k2
  have e3 := list_len _ _ _ _ k3
  have e4 := list_len _ _ _ _ k4
  have f1 := fld_put c1
  have f2 := fld_put c2
  have f3 := fld_put c3
  have f4 := fld_put c4
  simp only at e1 e2 e3 e4 f1 f2 f3 f4
  have g1 : (l1.length : Int) = n1 := by omega
  have g2 : (l2.length : Int) = n2 := by omega
  have g3 : (l3.length : Int) = n3 := by omega
  have g4 : (l4.length : Int) = n4 := by omega
  simp only [g1, g2, g3, g4]
def headC : Cod (Int × Int × Int × Int × Int × Int) := (fld 4 1111705159 1111705159 140).dep fun _ => (fld 2 1 1 144).dep fun _ => (fld 2 1 16 142).dep fun _ => (fld 2 0 32 142).dep fun _ => (fld 2 0 0 144).dep fun _ => u32C
theorem head_ok : headC.Ok := Cod.dep_ok (fld_ok (by decide)) fun _ => Cod.dep_ok (fld_ok (by decide)) fun _ => Cod.dep_ok (fld_ok (by decide)) fun _ => Cod.dep_ok (fld_ok (by decide)) fun _ => Cod.dep_ok (fld_ok (by decide)) fun _ => u32_ok
def cfC : Cod Cf := (headC.dep fun h => (listC (guestC ko) h.2.2.1.toNat).dep fun _ => listC chC h.2.2.2.1.toNat).map (fun x => ⟨x.1.2.2.2.2.2, x.2.1, x.2.2⟩) (fun c => ((1111705159, 1, (c.gs.length : Int), (c.chs.length : Int), 0, c.ver), c.gs, c.chs))
theorem cf_ok : (cfC ko).Ok := by
  refine Cod.map_ok (Cod.dep_ok head_ok fun _ => Cod.dep_ok (list_ok (guest_ok ko) _) fun _ => list_ok ch_ok _) (fun _ _ _ => rfl) (fun a bs h => ?_)
  obtain ⟨⟨m, f, n1, n2, z, v⟩, l1, l2⟩ := a
  obtain ⟨_, _, h1, h2, _⟩ := dep_put h
  obtain ⟨_, _, c1, h3, _⟩ := dep_put h1
  obtain ⟨_, _, c2, h4, _⟩ := dep_put h3
  obtain ⟨_, _, c3, h5, _⟩ := dep_put h4
  obtain ⟨_, _, c4, h6, _⟩ := dep_put h5
  obtain ⟨_, _, c5, _, _⟩ := dep_put h6
  obtain ⟨_, _, k1, k2, _⟩ := dep_put h2
  have e1 := list_len _ _ _ _ k1
  have e2 := list_len _ _ _ _ k2
  have f1 := fld_put c1
  have f2 := fld_put c2
  have f3 := fld_put c3
  have f4 := fld_put c4
  have f5 := fld_put c5
  simp only at e1 e2 f1 f2 f3 f4 f5
  have g1 : (l1.length : Int) = n1 := by omega
  have g2 : (l2.length : Int) = n2 := by omega
  have g3 : m = 1111705159 := by omega
  have g4 : f = 1 := by omega
  have g5 : z = 0 := by omega
  simp only [g1, g2, g3, g4, g5]
/-- Put and Parse. -/
def putC (c : Cf) : Except Nat By := match (cfC ko).put c with
  | .ok bs => if bs.length ≤ 65536 then .ok bs else .error 2
  | .error e => .error e
def getC (b : By) : Except (Nat × Nat) Cf := if 65536 < b.length then .error (2, 0) else match (cfC ko).get b 0 with
  | .ok (c, q) => if q < b.length then .error (145, q) else .ok c
  | .error e => .error e
theorem put_back {c : Cf} {b : By} (h : putC ko c = .ok b) : getC ko b = .ok c := by
  unfold putC at h
  cases h1 : (cfC ko).put c with
  | error e => rw [h1] at h; cases h
  | ok bs =>
    rw [h1] at h
    change (if bs.length ≤ 65536 then _ else _) = _ at h
    split at h
    · rename_i hl
      cases h
      have := (cf_ok ko).back c b h1 [] []
      simp only [List.nil_append, List.append_nil, List.length_nil, Nat.zero_add] at this
      unfold getC
      rw [if_neg (by omega), this]
      show (if b.length < b.length then _ else _) = _
      rw [if_neg (Nat.lt_irrefl _)]
    · cases h
theorem get_once {c : Cf} {b : By} (h : getC ko b = .ok c) : putC ko c = .ok b := by
  unfold getC at h
  split at h
  · cases h
  · rename_i hl
    cases h1 : (cfC ko).get b 0 with
    | error e => rw [h1] at h; cases h
    | ok cq =>
      obtain ⟨c', q⟩ := cq
      rw [h1] at h
      change (if q < b.length then _ else _) = _ at h
      split at h
      · cases h
      · rename_i hq
        cases h
        obtain ⟨_, k2, k3⟩ := (cf_ok ko).once b 0 c q (Nat.zero_le _) h1
        have e : q = b.length := by omega
        subst e
        rw [List.drop_zero, Nat.sub_zero, List.take_length] at k3
        unfold putC
        rw [k3]
        show (if b.length ≤ 65536 then _ else _) = _
        rw [if_pos (by omega)]
theorem put_cut {c : Cf} {b : By} (h : putC ko c = .ok b) (k : Nat) (hk : k < b.length) : ∃ p, getC ko (b.take k) = .error (141, p) ∧ p ≤ k := by
  unfold putC at h
  cases h1 : (cfC ko).put c with
  | error e => rw [h1] at h; cases h
  | ok bs =>
    rw [h1] at h
    change (if bs.length ≤ 65536 then _ else _) = _ at h
    split at h
    · rename_i hl
      cases h
      obtain ⟨p, g1, g2⟩ := (cf_ok ko).cuts c b h1 [] k hk
      simp only [List.nil_append, List.length_nil, Nat.zero_add] at g1 g2
      refine ⟨p, ?_, g2⟩
      unfold getC
      rw [if_neg (by simp; omega), g1]
    · cases h
theorem put_more {c : Cf} {b : By} (h : putC ko c = .ok b) (x : UInt8) : getC ko (b ++ [x]) = .error (145, b.length) ∨ getC ko (b ++ [x]) = .error (2, 0) := by
  unfold putC at h
  cases h1 : (cfC ko).put c with
  | error e => rw [h1] at h; cases h
  | ok bs =>
    rw [h1] at h
    change (if bs.length ≤ 65536 then _ else _) = _ at h
    split at h
    · rename_i hl
      cases h
      have := (cf_ok ko).back c b h1 [] [x]
      simp only [List.nil_append, List.length_nil, Nat.zero_add] at this
      unfold getC
      by_cases hb : 65536 < (b ++ [x]).length
      · rw [if_pos hb]; exact .inr rfl
      · rw [if_neg hb, this]
        refine .inl ?_
        show (if b.length < (b ++ [x]).length then _ else _) = _
        rw [if_pos (by simp)]
    · cases h
end
end Go.Proofs.Ytgnihceefpijiaa
/- A reader that keeps its first error; lists that grow at their end; a writer that keeps its first error. Plain. -/
namespace Go.Proofs.Ytgnihceefpijiaa

/-- How far is read; the first error and its place. -/
structure Rs where
  at_ : Nat
  err : Option (Nat × Nat)
/-- What reading by c makes of a reader; what was read counts only where there is no error. -/
def StepP {α : Type} (c : Cod α) (b : By) (st : Rs) (a : α) (st' : Rs) : Prop := match st.err with
  | some x => st'.err = some x
  | none => match c.get b st.at_ with
    | .ok (a', q) => a = a' ∧ st' = ⟨q, none⟩
    | .error x => st'.err = some x
section
variable {α β : Type} {b : By} {st s1 s2 : Rs}
theorem StepP.on {c : Cod α} {a : α} (h : StepP c b st a s1) (hn : s1.err = none) : st.err = none ∧ c.get b st.at_ = .ok (a, s1.at_) := by
  unfold StepP at h
  cases he : st.err with
  | some x => rw [he] at h; simp only at h; rw [hn] at h; cases h
  | none =>
    rw [he] at h
    simp only at h
    refine ⟨rfl, ?_⟩
    cases hg : c.get b st.at_ with
    | ok aq =>
      obtain ⟨a', q⟩ := aq
      rw [hg] at h
      obtain ⟨rfl, rfl⟩ := h
      rfl
    | error x => rw [hg] at h; simp only at h; rw [hn] at h; cases h
theorem StepP.of_some {c : Cod α} {a : α} {x : Nat × Nat} (h : st.err = some x) (h1 : s1.err = some x) : StepP c b st a s1 := by
  unfold StepP; rw [h]; exact h1
theorem StepP.stays {c : Cod α} {a : α} {x : Nat × Nat} (h : StepP c b st a s1) (hx : st.err = some x) : s1.err = some x := by
  unfold StepP at h; rw [hx] at h; exact h
theorem StepP.of_ok {c : Cod α} {a : α} {q : Nat} (h : st.err = none) (hg : c.get b st.at_ = .ok (a, q)) (h1 : s1 = ⟨q, none⟩) : StepP c b st a s1 := by
  unfold StepP; rw [h]; simp only; rw [hg]; exact ⟨rfl, h1⟩
theorem StepP.of_err {c : Cod α} {a : α} {x : Nat × Nat} (h : st.err = none) (hg : c.get b st.at_ = .error x) (h1 : s1.err = some x) : StepP c b st a s1 := by
  unfold StepP; rw [h]; simp only; rw [hg]; exact h1
theorem StepP.fails {c : Cod α} {a : α} {x : Nat × Nat} (h : StepP c b st a s1) (hn : st.err = none) (hx : s1.err = some x) : c.get b st.at_ = .error x := by
  unfold StepP at h
  rw [hn] at h
  simp only at h
  cases hg : c.get b st.at_ with
  | ok aq =>
    obtain ⟨a', q⟩ := aq
    rw [hg] at h
    obtain ⟨_, rfl⟩ := h
    cases hx
  | error y => rw [hg] at h; simp only at h; rw [hx] at h; cases h; rfl
theorem StepP.dep {c : Cod α} {d : α → Cod β} {a : α} {y : β} (h1 : StepP c b st a s1) (h2 : StepP (d a) b s1 y s2) : StepP (c.dep d) b st (a, y) s2 := by
  cases he : st.err with
  | some x => exact .of_some he (h2.stays (h1.stays he))
  | none =>
    cases e1 : s1.err with
    | some x =>
      refine .of_err he ?_ (h2.stays e1)
      show (match c.get b st.at_ with | .ok (a, q) => _ | .error e => _) = _
      rw [h1.fails he e1]
    | none =>
      obtain ⟨_, g1⟩ := h1.on e1
      cases e2 : s2.err with
      | some x =>
        refine .of_err he ?_ e2
        show (match c.get b st.at_ with | .ok (a, q) => _ | .error e => _) = _
        rw [g1]
        show (match (d a).get b s1.at_ with | .ok (y, r) => _ | .error e => _) = _
        rw [h2.fails e1 e2]
      | none =>
        obtain ⟨_, g2⟩ := h2.on e2
        refine .of_ok (q := s2.at_) he ?_ (by cases s2; simp only at e2; subst e2; rfl)
        show (match c.get b st.at_ with | .ok (a, q) => _ | .error e => _) = _
        rw [g1]
        show (match (d a).get b s1.at_ with | .ok (y, r) => _ | .error e => _) = _
        rw [g2]
theorem StepP.map {c : Cod α} {f : α → β} {g : β → α} {a : α} (h : StepP c b st a s1) : StepP (c.map f g) b st (f a) s1 := by
  cases he : st.err with
  | some x => exact .of_some he (h.stays he)
  | none =>
    cases e1 : s1.err with
    | some x =>
      refine .of_err he ?_ e1
      show (match c.get b st.at_ with | .ok (a, q) => _ | .error e => _) = _
      rw [h.fails he e1]
    | none =>
      obtain ⟨_, g1⟩ := h.on e1
      refine .of_ok (q := s1.at_) he ?_ (by cases s1; simp only at e1; subst e1; rfl)
      show (match c.get b st.at_ with | .ok (a, q) => _ | .error e => _) = _
      rw [g1]
/-- What is read under an error may be anything. -/
theorem StepP.any {c : Cod α} {a a' : α} (h : StepP c b st a s1) (ha : s1.err = none → a = a') : StepP c b st a' s1 := by
  cases he : st.err with
  | some x => exact .of_some he (h.stays he)
  | none =>
    cases e1 : s1.err with
    | some x => exact .of_err he (h.fails he e1) e1
    | none => rw [← ha e1]; exact h
end
section
variable {α : Type} {c : Cod α} {b : By}
theorem list_zero (p : Nat) : (listC c 0).get b p = .ok ([], p) := rfl
theorem list_succ (n p : Nat) : (listC c (n + 1)).get b p = match c.get b p with
    | .ok (a, q) => (match (listC c n).get b q with
      | .ok (l, r) => .ok (a :: l, r)
      | .error e => .error e)
    | .error e => .error e := by
  have e : (listC c (n + 1)).get b p = (match (c.dep fun _ => listC c n).get b p with
    | .ok (x, q) => .ok (x.1 :: x.2, q)
    | .error e => .error e) := rfl
  rw [e]
  unfold Cod.dep
  dsimp only
  cases c.get b p with
  | error e => rfl
  | ok aq =>
    obtain ⟨a, q⟩ := aq
    dsimp only
    cases (listC c n).get b q with
    | error e => rfl
    | ok lr => rfl
theorem list_snoc : ∀ (k p : Nat) (l : List α) (q : Nat) (a : α) (r : Nat), (listC c k).get b p = .ok (l, q) → c.get b q = .ok (a, r) → (listC c (k + 1)).get b p = .ok (l ++ [a], r)
  | 0, p, l, q, a, r, h, ha => by
    cases h
    rw [list_succ, ha]
    rfl
  | k + 1, p, l, q, a, r, h, ha => by
    rw [list_succ] at h ⊢
    cases h1 : c.get b p with
    | error e => rw [h1] at h; cases h
    | ok yq =>
      obtain ⟨y, q1⟩ := yq
      rw [h1] at h
      simp only at h ⊢
      cases h2 : (listC c k).get b q1 with
      | error e => rw [h2] at h; cases h
      | ok lr =>
        obtain ⟨l', r'⟩ := lr
        rw [h2] at h
        cases h
        rw [list_snoc k q1 l' q a r h2 ha]
        rfl
theorem list_stop : ∀ (k p : Nat) (l : List α) (q n : Nat) (e : Nat × Nat), (listC c k).get b p = .ok (l, q) → c.get b q = .error e → k < n → (listC c n).get b p = .error e
  | 0, p, l, q, n + 1, e, h, he, _ => by
    cases h
    rw [list_succ, he]
  | k + 1, p, l, q, n + 1, e, h, he, hk => by
    rw [list_succ] at h ⊢
    cases h1 : c.get b p with
    | error e => rw [h1] at h; cases h
    | ok yq =>
      obtain ⟨y, q1⟩ := yq
      rw [h1] at h
      simp only at h ⊢
      cases h2 : (listC c k).get b q1 with
      | error e => rw [h2] at h; cases h
      | ok lr =>
        obtain ⟨l', r'⟩ := lr
        rw [h2] at h
        cases h
        rw [list_stop k q1 l' q n e h2 he (by omega)]
/-- Lists written: one behind the other, up to the first error. -/
def putL (c : Cod α) : List α → Except Nat By
  | [] => .ok []
  | x :: xs => match c.put x with
    | .ok l => (match putL c xs with
      | .ok m => .ok (l ++ m)
      | .error e => .error e)
    | .error e => .error e
theorem putL_nil : putL c [] = .ok [] := rfl
theorem putL_cons (x : α) (xs : List α) : putL c (x :: xs) = match c.put x with
    | .ok l => (match putL c xs with
      | .ok m => .ok (l ++ m)
      | .error e => .error e)
    | .error e => .error e := rfl
theorem put_list : ∀ l : List α, (listC c l.length).put l = putL c l
  | [] => rfl
  | x :: xs => by
    show (match c.put x with | .ok l => (match (listC c xs.length).put xs with | .ok m => Except.ok (l ++ m) | .error e => Except.error e) | .error e => Except.error e) = _
    rw [put_list xs]
    rfl
theorem putL_snoc : ∀ (l : List α) (x : α), putL c (l ++ [x]) = match putL c l with
    | .ok m => (match c.put x with
      | .ok y => .ok (m ++ y)
      | .error e => .error e)
    | .error e => .error e
  | [], x => by
    show (match c.put x with | .ok l => (match Except.ok [] with | .ok m => Except.ok (l ++ m) | .error e => Except.error e) | .error e => Except.error e) = (match c.put x with | .ok y => Except.ok ([] ++ y) | .error e => Except.error e)
    cases c.put x with
    | error e => rfl
    | ok y => simp
  | z :: zs, x => by
    rw [List.cons_append, putL_cons, putL_cons, putL_snoc zs x]
    cases c.put z with
    | error e => rfl
    | ok l =>
      simp only
      cases putL c zs with
      | error e => rfl
      | ok m =>
        simp only
        cases c.put x with
        | error e => rfl
        | ok y => simp
theorem putL_stop : ∀ (l m : List α) (e : Nat), putL c l = .error e → putL c (l ++ m) = .error e
  | [], _, _, h => by cases h
  | z :: zs, m, e, h => by
    rw [List.cons_append, putL_cons]
    rw [putL_cons] at h
    cases h1 : c.put z with
    | error e' => rw [h1] at h; exact h
    | ok l =>
      rw [h1] at h
      simp only at h ⊢
      cases h2 : putL c zs with
      | error e' => rw [h2] at h; simp only at h; cases h; rw [putL_stop zs m e h2]
      | ok m' => rw [h2] at h; cases h
end
end Go.Proofs.Ytgnihceefpijiaa
