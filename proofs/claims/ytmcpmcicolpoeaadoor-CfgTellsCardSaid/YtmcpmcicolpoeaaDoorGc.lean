/- Configurations: how they are written as bytes, and read. Plain: no program stands here. ko: whether 68 bytes are a key. -/
import Derived.Test.YtmcpmcicolpoeaaDoorGk
namespace Go.Proofs.YtmcpmcicolpoeaaDoor

theorem dep_put {α β : Type} {c : Cod α} {d : α → Cod β} {x : α × β} {bs : By} (h : (c.dep d).put x = .ok bs) : ∃ l m, c.put x.1 = .ok l ∧ (d x.1).put x.2 = .ok m ∧ bs = l ++ m := by
  change (match c.put x.1 with | .ok l => _ | .error e => _) = _ at h
  cases h1 : c.put x.1 with
  | error e => rw [h1] at h; cases h
  | ok l =>
    rw [h1] at h
    change (match (d x.1).put x.2 with | .ok m => _ | .error e => _) = _ at h
    cases h2 : (d x.1).put x.2 with
    | error e => rw [h2] at h; cases h
    | ok m => rw [h2] at h; cases h; exact ⟨l, m, rfl, rfl, rfl⟩
theorem fld_put {m lo hi e : Nat} {z : Int} {bs : By} (h : (fld m lo hi e).put z = .ok bs) : (lo : Int) ≤ z ∧ z ≤ (hi : Int) ∧ bs = be m z.toNat := by
  change (if (lo : Int) ≤ z ∧ z ≤ (hi : Int) then _ else _) = _ at h
  split at h
  · rename_i hc; cases h; exact ⟨hc.1, hc.2, rfl⟩
  · cases h
/-- A name's sign; a name. -/
def sign (c : UInt8) : Bool := (97 ≤ c && c ≤ 122) || (48 ≤ c && c ≤ 57) || c == 45
def nameOk (s : By) : Bool := s.all sign && decide (1 ≤ s.length) && decide (s.length ≤ 16)
theorem sign_ne {c : UInt8} (h : sign c = true) : c ≠ 0 := fun e => by subst e; revert h; decide
def nameE (s : By) : By := s ++ List.replicate (16 - s.length) 0
def nameD (l : By) : By := l.takeWhile fun c => c != 0
def nameC : Cod By := raw 16 (fun s => if nameOk s = true then .ok (nameE s) else .error 143) fun l => if nameOk (nameD l) = true ∧ (l.drop (nameD l).length).all (fun c => c == 0) = true then .ok (nameD l) else .error 143
theorem nameD_of (s : By) (n : Nat) (h : ∀ c ∈ s, c ≠ 0) : nameD (s ++ List.replicate n 0) = s := by
  unfold nameD
  rw [List.takeWhile_append_of_pos (fun c hc => by simpa using h c hc)]
  cases n with
  | zero => simp
  | succ n => simp [List.replicate_succ]
theorem zeros_of : ∀ (l : By), l.all (fun c => c == 0) = true → l = List.replicate l.length 0
  | [], _ => rfl
  | c :: cs, h => by
    simp only [List.all_cons, Bool.and_eq_true, beq_iff_eq] at h
    rw [List.length_cons, List.replicate_succ, ← zeros_of cs h.2, h.1]
theorem takeWhile_pre (p : UInt8 → Bool) : ∀ l : By, l.takeWhile p ++ l.drop (l.takeWhile p).length = l
  | [] => rfl
  | c :: cs => by
    cases h : p c with
    | true => simp [h, takeWhile_pre p cs]
    | false => simp [h]
theorem name_ok : nameC.Ok := by
  refine raw_ok (fun s bs h => ?_) (fun s bs h => ?_) (fun bs s hl h => ?_)
  · split at h
    · rename_i hn
      cases h
      simp only [nameOk, Bool.and_eq_true, decide_eq_true_eq] at hn
      simp [nameE]; omega
    · cases h
  · split at h
    · rename_i hn
      cases h
      have hs : ∀ c ∈ s, c ≠ 0 := fun c hc => sign_ne (by
        simp only [nameOk, Bool.and_eq_true] at hn
        exact List.all_eq_true.1 hn.1.1 c hc)
      have e := nameD_of s (16 - s.length) hs
      unfold nameE
      rw [e, if_pos ⟨hn, by simp⟩]
    · cases h
  · split at h
    · rename_i hc
      cases h
      rw [if_pos hc.1]
      have h1 := takeWhile_pre (fun c => c != 0) bs
      have h2 := zeros_of _ hc.2
      have h3 : (bs.drop (nameD bs).length).length = 16 - (nameD bs).length := by simp [hl]
      rw [h3] at h2
      unfold nameE
      rw [← h2]
      exact congrArg Except.ok h1
    · cases h
/-- The kinds of numbers. -/
def u64C : Cod Int := fld 8 0 18446744073709551615 144
def u32C : Cod Int := fld 4 0 4294967295 144
theorem u64_ok : u64C.Ok := fld_ok (by decide)
theorem u32_ok : u32C.Ok := fld_ok (by decide)
def boolC : Cod Bool := (fld 4 0 1 144).map (fun z => decide (z = 1)) (fun b => cond b 1 0)
theorem bool_ok : boolC.Ok := by
  refine Cod.map_ok (fld_ok (by decide)) (fun b _ _ => by cases b <;> rfl) (fun z bs h => ?_)
  obtain ⟨h1, h2, _⟩ := fld_put h
  have : z = 0 ∨ z = 1 := by omega
  rcases this with rfl | rfl <;> rfl
/-- What a configuration has. -/
structure Wi where
  ipa : Int
  pa : Int
  size : Int
  perm : Int
structure De where
  ipa : Int
  pa : Int
  size : Int
structure Ir where
  number : Int
  cpu : Int
  edge : Bool
structure En where
  guest : Int
  perm : Int
  ipa : Int
structure Ch where
  pa : Int
  size : Int
  a : En
  b : En
structure Gs where
  name : By
  must : Bool
  off : Int
  len : Int
  cpus : Int
  entry : Int
  dtb : Int
  key : By
  wins : List Wi
  devs : List De
  irqs : List Ir
  strs : List Int
structure Cf where
  ver : Int
  gs : List Gs
  chs : List Ch
def winC : Cod Wi := (u64C.dep fun _ => u64C.dep fun _ => u64C.dep fun _ => fld 4 0 7 144).map (fun x => ⟨x.1, x.2.1, x.2.2.1, x.2.2.2⟩) (fun w => (w.ipa, w.pa, w.size, w.perm))
theorem win_ok : winC.Ok := Cod.map_ok (Cod.dep_ok u64_ok fun _ => Cod.dep_ok u64_ok fun _ => Cod.dep_ok u64_ok fun _ => fld_ok (by decide)) (fun _ _ _ => rfl) (fun _ _ _ => rfl)
def devC : Cod De := (u64C.dep fun _ => u64C.dep fun _ => u64C).map (fun x => ⟨x.1, x.2.1, x.2.2⟩) (fun w => (w.ipa, w.pa, w.size))
theorem dev_ok : devC.Ok := Cod.map_ok (Cod.dep_ok u64_ok fun _ => Cod.dep_ok u64_ok fun _ => u64_ok) (fun _ _ _ => rfl) (fun _ _ _ => rfl)
def irqC : Cod Ir := ((fld 2 0 65535 144).dep fun _ => (fld 2 0 65535 144).dep fun _ => boolC).map (fun x => ⟨x.1, x.2.1, x.2.2⟩) (fun w => (w.number, w.cpu, w.edge))
theorem irq_ok : irqC.Ok := Cod.map_ok (Cod.dep_ok (fld_ok (by decide)) fun _ => Cod.dep_ok (fld_ok (by decide)) fun _ => bool_ok) (fun _ _ _ => rfl) (fun _ _ _ => rfl)
def endC : Cod En := ((fld 2 0 65535 144).dep fun _ => (fld 2 0 7 144).dep fun _ => u64C).map (fun x => ⟨x.1, x.2.1, x.2.2⟩) (fun w => (w.guest, w.perm, w.ipa))
theorem end_ok : endC.Ok := Cod.map_ok (Cod.dep_ok (fld_ok (by decide)) fun _ => Cod.dep_ok (fld_ok (by decide)) fun _ => u64_ok) (fun _ _ _ => rfl) (fun _ _ _ => rfl)
def chC : Cod Ch := (u64C.dep fun _ => u64C.dep fun _ => endC.dep fun _ => endC).map (fun x => ⟨x.1, x.2.1, x.2.2.1, x.2.2.2⟩) (fun w => (w.pa, w.size, w.a, w.b))
theorem ch_ok : chC.Ok := Cod.map_ok (Cod.dep_ok u64_ok fun _ => Cod.dep_ok u64_ok fun _ => Cod.dep_ok end_ok fun _ => end_ok) (fun _ _ _ => rfl) (fun _ _ _ => rfl)
section
variable (ko : By → Bool)
def keyC : Cod By := raw 68 (fun k => if k.length = 68 ∧ ko k = true then .ok k else .error 144) fun l => if ko l = true then .ok l else .error 144
theorem key_ok : (keyC ko).Ok := by
  refine raw_ok (fun s bs h => ?_) (fun s bs h => ?_) (fun bs s hl h => ?_)
  · split at h
    · rename_i hn; cases h; exact hn.1
    · cases h
  · split at h
    · rename_i hn; cases h; rw [if_pos hn.2]
    · cases h
  · split at h
    · rename_i hn; cases h; rw [if_pos ⟨hl, hn⟩]
    · cases h
/-- A guest's head: all ahead of its counts. -/
abbrev GH := By × Bool × Int × Int × Int × Int × Int × By
def ghC : Cod GH := nameC.dep fun _ => boolC.dep fun _ => u32C.dep fun _ => u32C.dep fun _ => u32C.dep fun _ => u64C.dep fun _ => u64C.dep fun _ => keyC ko
theorem gh_ok : (ghC ko).Ok := Cod.dep_ok name_ok fun _ => Cod.dep_ok bool_ok fun _ => Cod.dep_ok u32_ok fun _ => Cod.dep_ok u32_ok fun _ => Cod.dep_ok u32_ok fun _ => Cod.dep_ok u64_ok fun _ => Cod.dep_ok u64_ok fun _ => key_ok ko
def cntC : Cod (Int × Int × Int × Int) := (fld 2 1 16 142).dep fun _ => (fld 2 0 16 142).dep fun _ => (fld 2 0 64 142).dep fun _ => fld 2 0 32 142
theorem cnt_ok : cntC.Ok := Cod.dep_ok (fld_ok (by decide)) fun _ => Cod.dep_ok (fld_ok (by decide)) fun _ => Cod.dep_ok (fld_ok (by decide)) fun _ => fld_ok (by decide)
def lstC (n : Int × Int × Int × Int) : Cod (List Wi × List De × List Ir × List Int) := (listC winC n.1.toNat).dep fun _ => (listC devC n.2.1.toNat).dep fun _ => (listC irqC n.2.2.1.toNat).dep fun _ => listC u32C n.2.2.2.toNat
theorem lst_ok (n : Int × Int × Int × Int) : (lstC n).Ok := Cod.dep_ok (list_ok win_ok _) fun _ => Cod.dep_ok (list_ok dev_ok _) fun _ => Cod.dep_ok (list_ok irq_ok _) fun _ => list_ok u32_ok _
def guestC : Cod Gs := ((ghC ko).dep fun _ => cntC.dep lstC).map
  (fun x => ⟨x.1.1, x.1.2.1, x.1.2.2.1, x.1.2.2.2.1, x.1.2.2.2.2.1, x.1.2.2.2.2.2.1, x.1.2.2.2.2.2.2.1, x.1.2.2.2.2.2.2.2, x.2.2.1, x.2.2.2.1, x.2.2.2.2.1, x.2.2.2.2.2⟩)
  (fun g => ((g.name, g.must, g.off, g.len, g.cpus, g.entry, g.dtb, g.key), ((g.wins.length : Int), (g.devs.length : Int), (g.irqs.length : Int), (g.strs.length : Int)), g.wins, g.devs, g.irqs, g.strs))
theorem guest_ok : (guestC ko).Ok := by
  refine Cod.map_ok (Cod.dep_ok (gh_ok ko) fun _ => Cod.dep_ok cnt_ok lst_ok) (fun _ _ _ => rfl) (fun a bs h => ?_)
  obtain ⟨hd, ⟨n1, n2, n3, n4⟩, l1, l2, l3, l4⟩ := a
  obtain ⟨_, _, _, h1, _⟩ := dep_put h
  obtain ⟨_, _, h2, h3, _⟩ := dep_put h1
  obtain ⟨_, _, c1, h4, _⟩ := dep_put h2
  obtain ⟨_, _, c2, h5, _⟩ := dep_put h4
  obtain ⟨_, _, c3, c4, _⟩ := dep_put h5
  obtain ⟨_, _, k1, h6, _⟩ := dep_put h3
  obtain ⟨_, _, k2, h7, _⟩ := dep_put h6
  obtain ⟨_, _, k3, k4, _⟩ := dep_put h7
  have e1 := list_len _ _ _ _ k1
  have e2 := list_len _ _ _ _ k2
  have e3 := list_len _ _ _ _ k3
  have e4 := list_len _ _ _ _ k4
  have f1 := fld_put c1
  have f2 := fld_put c2
  have f3 := fld_put c3
  have f4 := fld_put c4
  simp only at e1 e2 e3 e4 f1 f2 f3 f4
  have g1 : (l1.length : Int) = n1 := by omega
  have g2 : (l2.length : Int) = n2 := by omega
  have g3 : (l3.length : Int) = n3 := by omega
  have g4 : (l4.length : Int) = n4 := by omega
  simp only [g1, g2, g3, g4]
def headC : Cod (Int × Int × Int × Int × Int × Int) := (fld 4 1111705159 1111705159 140).dep fun _ => (fld 2 1 1 144).dep fun _ => (fld 2 1 16 142).dep fun _ => (fld 2 0 32 142).dep fun _ => (fld 2 0 0 144).dep fun _ => u32C
theorem head_ok : headC.Ok := Cod.dep_ok (fld_ok (by decide)) fun _ => Cod.dep_ok (fld_ok (by decide)) fun _ => Cod.dep_ok (fld_ok (by decide)) fun _ => Cod.dep_ok (fld_ok (by decide)) fun _ => Cod.dep_ok (fld_ok (by decide)) fun _ => u32_ok
def cfC : Cod Cf := (headC.dep fun h => (listC (guestC ko) h.2.2.1.toNat).dep fun _ => listC chC h.2.2.2.1.toNat).map (fun x => ⟨x.1.2.2.2.2.2, x.2.1, x.2.2⟩) (fun c => ((1111705159, 1, (c.gs.length : Int), (c.chs.length : Int), 0, c.ver), c.gs, c.chs))
theorem cf_ok : (cfC ko).Ok := by
  refine Cod.map_ok (Cod.dep_ok head_ok fun _ => Cod.dep_ok (list_ok (guest_ok ko) _) fun _ => list_ok ch_ok _) (fun _ _ _ => rfl) (fun a bs h => ?_)
  obtain ⟨⟨m, f, n1, n2, z, v⟩, l1, l2⟩ := a
  obtain ⟨_, _, h1, h2, _⟩ := dep_put h
  obtain ⟨_, _, c1, h3, _⟩ := dep_put h1
  obtain ⟨_, _, c2, h4, _⟩ := dep_put h3
  obtain ⟨_, _, c3, h5, _⟩ := dep_put h4
  obtain ⟨_, _, c4, h6, _⟩ := dep_put h5
  obtain ⟨_, _, c5, _, _⟩ := dep_put h6
  obtain ⟨_, _, k1, k2, _⟩ := dep_put h2
  have e1 := list_len _ _ _ _ k1
  have e2 := list_len _ _ _ _ k2
  have f1 := fld_put c1
  have f2 := fld_put c2
  have f3 := fld_put c3
  have f4 := fld_put c4
  have f5 := fld_put c5
  simp only at e1 e2 f1 f2 f3 f4 f5
  have g1 : (l1.length : Int) = n1 := by omega
  have g2 : (l2.length : Int) = n2 := by omega
  have g3 : m = 1111705159 := by omega
  have g4 : f = 1 := by omega
  have g5 : z = 0 := by omega
  simp only [g1, g2, g3, g4, g5]
/-- Put and Parse. -/
def putC (c : Cf) : Except Nat By := match (cfC ko).put c with
  | .ok bs => if bs.length ≤ 65536 then .ok bs else .error 2
  | .error e => .error e
def getC (b : By) : Except (Nat × Nat) Cf := if 65536 < b.length then .error (2, 0) else match (cfC ko).get b 0 with
  | .ok (c, q) => if q < b.length then .error (145, q) else .ok c
  | .error e => .error e
theorem put_back {c : Cf} {b : By} (h : putC ko c = .ok b) : getC ko b = .ok c := by
  unfold putC at h
  cases h1 : (cfC ko).put c with
  | error e => rw [h1] at h; cases h
  | ok bs =>
    rw [h1] at h
    change (if bs.length ≤ 65536 then _ else _) = _ at h
    split at h
    · rename_i hl
      cases h
      have := (cf_ok ko).back c b h1 [] []
      simp only [List.nil_append, List.append_nil, List.length_nil, Nat.zero_add] at this
      unfold getC
      rw [if_neg (by omega), this]
      show (if b.length < b.length then _ else _) = _
      rw [if_neg (Nat.lt_irrefl _)]
    · cases h
theorem get_once {c : Cf} {b : By} (h : getC ko b = .ok c) : putC ko c = .ok b := by
  unfold getC at h
  split at h
  · cases h
  · rename_i hl
    cases h1 : (cfC ko).get b 0 with
    | error e => rw [h1] at h; cases h
    | ok cq =>
      obtain ⟨c', q⟩ := cq
      rw [h1] at h
      change (if q < b.length then _ else _) = _ at h
      split at h
      · cases h
      · rename_i hq
        cases h
        obtain ⟨_, k2, k3⟩ := (cf_ok ko).once b 0 c q (Nat.zero_le _) h1
        have e : q = b.length := by omega
        subst e
        rw [List.drop_zero, Nat.sub_zero, List.take_length] at k3
        unfold putC
        rw [k3]
        show (if b.length ≤ 65536 then _ else _) = _
        rw [if_pos (by omega)]
theorem put_cut {c : Cf} {b : By} (h : putC ko c = .ok b) (k : Nat) (hk : k < b.length) : ∃ p, getC ko (b.take k) = .error (141, p) ∧ p ≤ k := by
  unfold putC at h
  cases h1 : (cfC ko).put c with
  | error e => rw [h1] at h; cases h
  | ok bs =>
    rw [h1] at h
    change (if bs.length ≤ 65536 then _ else _) = _ at h
    split at h
    · rename_i hl
      cases h
      obtain ⟨p, g1, g2⟩ := (cf_ok ko).cuts c b h1 [] k hk
      simp only [List.nil_append, List.length_nil, Nat.zero_add] at g1 g2
      refine ⟨p, ?_, g2⟩
      unfold getC
      rw [if_neg (by simp; omega), g1]
    · cases h
theorem put_more {c : Cf} {b : By} (h : putC ko c = .ok b) (x : UInt8) : getC ko (b ++ [x]) = .error (145, b.length) ∨ getC ko (b ++ [x]) = .error (2, 0) := by
  unfold putC at h
  cases h1 : (cfC ko).put c with
  | error e => rw [h1] at h; cases h
  | ok bs =>
    rw [h1] at h
    change (if bs.length ≤ 65536 then _ else _) = _ at h
    split at h
    · rename_i hl
      cases h
      have := (cf_ok ko).back c b h1 [] [x]
      simp only [List.nil_append, List.length_nil, Nat.zero_add] at this
      unfold getC
      by_cases hb : 65536 < (b ++ [x]).length
      · rw [if_pos hb]; exact .inr rfl
      · rw [if_neg hb, this]
        refine .inl ?_
        show (if b.length < (b ++ [x]).length then _ else _) = _
        rw [if_pos (by simp)]
    · cases h
end
end Go.Proofs.YtmcpmcicolpoeaaDoor
