/- Writing a configuration: the first error's number, and the bytes; that putC answers so. Plain. -/
import Derived.Test.YtmcpmcicolpoeaaDoorMb
import Derived.Test.YtmcpmcicolpoeaaDoorOpn14
namespace Go.Proofs.YtmcpmcicolpoeaaDoor
set_option linter.unusedSimpArgs false

def PutIs {α : Type} (c : Cod α) (x : α) (er : Nat) (l : By) : Prop := c.put x = if er = 0 then .ok l else .error er
theorem PutIs.dep {α β : Type} {c : Cod α} {d : α → Cod β} {x : α × β} {e1 e2 : Nat} {l1 l2 : By} (h1 : PutIs c x.1 e1 l1) (h2 : PutIs (d x.1) x.2 e2 l2) : PutIs (c.dep d) x (if e1 = 0 then e2 else e1) (l1 ++ l2) := by
  unfold PutIs at *
  show (match c.put x.1 with | .ok l => (match (d x.1).put x.2 with | .ok m => Except.ok (l ++ m) | .error e => .error e) | .error e => .error e) = _
  rw [h1, h2]
  by_cases e1 : e1 = 0 <;> by_cases e2 : e2 = 0 <;> simp [*]
theorem PutIs.map {α β : Type} {c : Cod α} {f : α → β} {g : β → α} {x : β} {e : Nat} {l : By} (h : PutIs c (g x) e l) : PutIs (c.map f g) x e l := h
/-- The first error in a list. -/
def errL {α : Type} (e : α → Nat) : List α → Nat
  | [] => 0
  | x :: xs => if e x = 0 then errL e xs else e x
theorem PutIs.list {α : Type} {c : Cod α} {e : α → Nat} {lay : α → By} : ∀ l : List α, (∀ x ∈ l, PutIs c x (e x) (lay x)) → PutIs (listC c l.length) l (errL e l) (l.flatMap lay)
  | [], _ => rfl
  | x :: xs, h => by
    have h1 := h x (by simp)
    have h2 := PutIs.list xs fun y hy => h y (by simp [hy])
    have := PutIs.dep (c := c) (d := fun _ => listC c xs.length) (x := (x, xs)) h1 h2
    exact this
theorem errL_all {α : Type} {e : α → Nat} {b : α → Bool} {n : Nat} (h : ∀ x, e x = if b x = true then n else 0) (hn : n ≠ 0) : ∀ l : List α, errL e l = if l.any b = true then n else 0
  | [] => rfl
  | x :: xs => by
    show (if e x = 0 then errL e xs else e x) = _
    rw [errL_all h hn xs, h x]
    cases hb : b x <;> simp [hb, hn]
theorem errL_none {α : Type} {e : α → Nat} (l : List α) (h : ∀ x ∈ l, e x = 0) : errL e l = 0 := by
  induction l with
  | nil => rfl
  | cons x xs ih =>
    show (if e x = 0 then errL e xs else e x) = 0
    rw [h x (by simp), if_pos rfl]
    exact ih fun y hy => h y (by simp [hy])
theorem put_fld {m lo hi er : Nat} (z : Int) : (fld m lo hi er).put z = if (lo : Int) ≤ z ∧ z ≤ (hi : Int) then .ok (be m z.toNat) else .error er := rfl
theorem PutIs.fld {m lo hi er : Nat} (he : er ≠ 0) (z : Int) : PutIs (fld m lo hi er) z (if inB z lo hi = true then 0 else er) (be m z.toNat) := by
  unfold PutIs
  rw [put_fld]
  unfold inB
  by_cases h : (lo : Int) ≤ z ∧ z ≤ (hi : Int) <;> simp [h, he]
theorem PutIs.fldOk {m lo hi er : Nat} {z : Int} (h : (lo : Int) ≤ z ∧ z ≤ (hi : Int)) : PutIs (Go.Proofs.YtmcpmcicolpoeaaDoor.fld m lo hi er) z 0 (be m z.toNat) := by
  unfold PutIs
  rw [put_fld, if_pos h, if_pos rfl]
theorem PutIs.u64 {z : Int} (h : u64B z) : PutIs u64C z 0 (be 8 z.toNat) := PutIs.fldOk h
theorem PutIs.u32 {z : Int} (h : u32B z) : PutIs u32C z 0 (be 4 z.toNat) := PutIs.fldOk h
def flagN (b : Bool) : Nat := cond b 1 0
theorem PutIs.bool (b : Bool) : PutIs boolC b 0 (be 4 (flagN b)) := by
  cases b <;> exact PutIs.map (PutIs.fldOk (by decide))
theorem PutIs.e {α : Type} {c : Cod α} {x : α} {e e' : Nat} {l l' : By} (h : PutIs c x e l) (he : e = e') (hl : l = l') : PutIs c x e' l' := he ▸ hl ▸ h
def badWi (x : Wi) : Bool := !inB x.perm 0 7
def badIr (x : Ir) : Bool := !inB x.number 0 65535 || !inB x.cpu 0 65535
def badEn (x : En) : Bool := !inB x.guest 0 65535 || !inB x.perm 0 7
def badCh (x : Ch) : Bool := badEn x.a || badEn x.b
def e144 (b : Bool) : Nat := if b = true then 144 else 0
def layWi (x : Wi) : By := be 8 x.ipa.toNat ++ (be 8 x.pa.toNat ++ (be 8 x.size.toNat ++ be 4 x.perm.toNat))
def layDe (x : De) : By := be 8 x.ipa.toNat ++ (be 8 x.pa.toNat ++ be 8 x.size.toNat)
def layIr (x : Ir) : By := be 2 x.number.toNat ++ (be 2 x.cpu.toNat ++ be 4 (flagN x.edge))
def layEn (x : En) : By := be 2 x.guest.toNat ++ (be 2 x.perm.toNat ++ be 8 x.ipa.toNat)
def layCh (x : Ch) : By := be 8 x.pa.toNat ++ (be 8 x.size.toNat ++ (layEn x.a ++ layEn x.b))
def layNu (x : Int) : By := be 4 x.toNat
theorem put_wi {x : Wi} (h : WiB x) : PutIs winC x (e144 (badWi x)) (layWi x) := by
  refine PutIs.map (PutIs.e (PutIs.dep (PutIs.u64 h.1) (PutIs.dep (PutIs.u64 h.2.1) (PutIs.dep (PutIs.u64 h.2.2.1) (PutIs.fld (by decide) _)))) ?_ rfl)
  unfold e144 badWi
  cases h : inB x.perm 0 7 <;> simp [h]
theorem put_de {x : De} (h : DeB x) : PutIs devC x 0 (layDe x) := PutIs.map (PutIs.e (PutIs.dep (PutIs.u64 h.1) (PutIs.dep (PutIs.u64 h.2.1) (PutIs.u64 h.2.2))) rfl rfl)
theorem put_ir (x : Ir) : PutIs irqC x (e144 (badIr x)) (layIr x) := by
  refine PutIs.map (PutIs.e (PutIs.dep (PutIs.fld (by decide) _) (PutIs.dep (PutIs.fld (by decide) _) (PutIs.bool _))) ?_ rfl)
  unfold e144 badIr
  cases h1 : inB x.number 0 65535 <;> cases h2 : inB x.cpu 0 65535 <;> simp [h1, h2]
theorem put_en {x : En} (h : EnB x) : PutIs endC x (e144 (badEn x)) (layEn x) := by
  refine PutIs.map (PutIs.e (PutIs.dep (PutIs.fld (by decide) _) (PutIs.dep (PutIs.fld (by decide) _) (PutIs.u64 h.2.2))) ?_ rfl)
  unfold e144 badEn
  cases h1 : inB x.guest 0 65535 <;> cases h2 : inB x.perm 0 7 <;> simp [h1, h2]
theorem put_ch {x : Ch} (h : ChB x) : PutIs chC x (e144 (badCh x)) (layCh x) := by
  refine PutIs.map (PutIs.e (PutIs.dep (PutIs.u64 h.1) (PutIs.dep (PutIs.u64 h.2.1) (PutIs.dep (put_en h.2.2.1) (put_en h.2.2.2)))) ?_ rfl)
  unfold e144 badCh
  cases h1 : badEn x.a <;> cases h2 : badEn x.b <;> simp [h1, h2]
def cntOk (g : Gs) : Bool := inB g.wins.length 1 16 && (inB g.devs.length 0 16 && (inB g.irqs.length 0 64 && inB g.strs.length 0 32))
def errG (g : Gs) : Nat := if nameOk g.name = false then 143 else if kOk g.key = false then 144 else if cntOk g = false then 142 else e144 (g.wins.any badWi || g.irqs.any badIr)
def layHd (g : Gs) : By := nameE g.name ++ (be 4 (flagN g.must) ++ (be 4 g.off.toNat ++ (be 4 g.len.toNat ++ (be 4 g.cpus.toNat ++ (be 8 g.entry.toNat ++ (be 8 g.dtb.toNat ++ g.key))))))
def layCt (g : Gs) : By := be 2 g.wins.length ++ (be 2 g.devs.length ++ (be 2 g.irqs.length ++ be 2 g.strs.length))
def layLs (g : Gs) : By := g.wins.flatMap layWi ++ (g.devs.flatMap layDe ++ (g.irqs.flatMap layIr ++ g.strs.flatMap layNu))
def layG (g : Gs) : By := layHd g ++ (layCt g ++ layLs g)
theorem put_name (s : By) : PutIs nameC s (if nameOk s = true then 0 else 143) (nameE s) := by
  unfold PutIs
  show (if nameOk s = true then Except.ok (nameE s) else .error 143) = _
  cases h : nameOk s <;> simp [h]
theorem put_key {k : By} (hk : k.length = 68) : PutIs (keyC kOk) k (if kOk k = true then 0 else 144) k := by
  unfold PutIs
  show (if k.length = 68 ∧ kOk k = true then Except.ok k else .error 144) = _
  cases h : kOk k <;> simp [h, hk]
theorem put_g {g : Gs} (h : GsB g) : PutIs (guestC kOk) g (errG g) (layG g) := by
  have k1 : PutIs (ghC kOk) (g.name, g.must, g.off, g.len, g.cpus, g.entry, g.dtb, g.key) (if nameOk g.name = false then 143 else if kOk g.key = false then 144 else 0) (layHd g) := by
    refine PutIs.e (PutIs.dep (put_name _) (PutIs.dep (PutIs.bool _) (PutIs.dep (PutIs.u32 h.off) (PutIs.dep (PutIs.u32 h.len) (PutIs.dep (PutIs.u32 h.cpus) (PutIs.dep (PutIs.u64 h.entry) (PutIs.dep (PutIs.u64 h.dtb) (put_key h.key)))))))) ?_ rfl
    cases h1 : nameOk g.name <;> cases h2 : kOk g.key <;> simp [h1, h2]
  have k2 : PutIs cntC ((g.wins.length : Int), (g.devs.length : Int), (g.irqs.length : Int), (g.strs.length : Int)) (if cntOk g = false then 142 else 0) (layCt g) := by
    refine PutIs.e (PutIs.dep (PutIs.fld (by decide) _) (PutIs.dep (PutIs.fld (by decide) _) (PutIs.dep (PutIs.fld (by decide) _) (PutIs.fld (by decide) _)))) ?_ (by simp [layCt])
    unfold cntOk
    cases h1 : inB (g.wins.length : Int) 1 16 <;> cases h2 : inB (g.devs.length : Int) 0 16 <;> cases h3 : inB (g.irqs.length : Int) 0 64 <;> cases h4 : inB (g.strs.length : Int) 0 32 <;> simp [h1, h2, h3, h4]
  have k3 : PutIs (lstC ((g.wins.length : Int), (g.devs.length : Int), (g.irqs.length : Int), (g.strs.length : Int))) (g.wins, g.devs, g.irqs, g.strs) (e144 (g.wins.any badWi || g.irqs.any badIr)) (layLs g) := by
    have w1 := PutIs.list (c := winC) g.wins fun x hx => put_wi (h.wins x hx)
    have w2 := PutIs.list (c := devC) g.devs fun x hx => put_de (h.devs x hx)
    have w3 := PutIs.list (c := irqC) g.irqs fun x _ => put_ir x
    have w4 := PutIs.list (c := u32C) (e := fun _ => 0) (lay := layNu) g.strs fun x hx => PutIs.u32 (h.strs x hx)
    rw [errL_all (e := fun x => e144 (badWi x)) (b := badWi) (n := 144) (fun x => rfl) (by decide)] at w1
    rw [errL_none _ (fun _ _ => rfl)] at w2 w4
    rw [errL_all (e := fun x => e144 (badIr x)) (b := badIr) (n := 144) (fun x => rfl) (by decide)] at w3
    refine PutIs.e (PutIs.dep (c := listC winC _) (x := (g.wins, g.devs, g.irqs, g.strs)) w1 (PutIs.dep (c := listC devC _) (x := (g.devs, g.irqs, g.strs)) w2 (PutIs.dep (c := listC irqC _) (x := (g.irqs, g.strs)) w3 w4))) ?_ rfl
    unfold e144
    cases h1 : g.wins.any badWi <;> cases h2 : g.irqs.any badIr <;> simp [h1, h2]
  refine PutIs.map (PutIs.e (PutIs.dep k1 (PutIs.dep k2 k3)) ?_ rfl)
  unfold errG
  cases h1 : nameOk g.name <;> cases h2 : kOk g.key <;> cases h3 : cntOk g <;> simp [h1, h2, h3]
def errC (c : Cf) : Nat := if (inB c.gs.length 1 16 && inB c.chs.length 0 32) = false then 142 else if errL errG c.gs = 0 then e144 (c.chs.any badCh) else errL errG c.gs
def layC (c : Cf) : By := be 4 1111705159 ++ (be 2 1 ++ (be 2 c.gs.length ++ (be 2 c.chs.length ++ (be 2 0 ++ be 4 c.ver.toNat)))) ++ (c.gs.flatMap layG ++ c.chs.flatMap layCh)
theorem put_c {c : Cf} (h : CfB c) : PutIs (cfC kOk) c (errC c) (layC c) := by
  have k1 : PutIs headC (1111705159, 1, (c.gs.length : Int), (c.chs.length : Int), 0, c.ver) (if (inB c.gs.length 1 16 && inB c.chs.length 0 32) = false then 142 else 0) (be 4 1111705159 ++ (be 2 1 ++ (be 2 c.gs.length ++ (be 2 c.chs.length ++ (be 2 0 ++ be 4 c.ver.toNat))))) := by
    refine PutIs.e (PutIs.dep (PutIs.fldOk (z := 1111705159) (by decide)) (PutIs.dep (PutIs.fldOk (z := 1) (by decide)) (PutIs.dep (PutIs.fld (by decide) _) (PutIs.dep (PutIs.fld (by decide) _) (PutIs.dep (PutIs.fldOk (z := 0) (by decide)) (PutIs.u32 h.ver)))))) ?_ (by simp)
    cases h1 : inB (c.gs.length : Int) 1 16 <;> cases h2 : inB (c.chs.length : Int) 0 32 <;> simp [h1, h2]
  have w1 := PutIs.list (c := guestC kOk) c.gs fun x hx => put_g (h.gs x hx)
  have w2 := PutIs.list (c := chC) c.chs fun x hx => put_ch (h.chs x hx)
  rw [errL_all (e := fun x => e144 (badCh x)) (b := badCh) (n := 144) (fun x => rfl) (by decide)] at w2
  refine PutIs.map (PutIs.e (PutIs.dep k1 (PutIs.dep w1 w2)) ?_ rfl)
  unfold errC e144
  cases h1 : (inB (c.gs.length : Int) 1 16 && inB (c.chs.length : Int) 0 32) <;> simp [h1]
/-- What Put answers. -/
def errP (c : Cf) : Nat := if errC c = 0 then (if (layC c).length ≤ 65536 then 0 else 2) else errC c
theorem putC_is {c : Cf} (h : CfB c) : putC kOk c = if errP c = 0 then .ok (layC c) else .error (errP c) := by
  have k := put_c h
  unfold PutIs at k
  unfold putC errP
  rw [k]
  by_cases h1 : errC c = 0
  · rw [if_pos h1, if_pos h1]
    by_cases h2 : (layC c).length ≤ 65536
    · simp [h2]
    · simp [h2]
  · rw [if_neg h1, if_neg h1, if_neg h1]
end Go.Proofs.YtmcpmcicolpoeaaDoor
