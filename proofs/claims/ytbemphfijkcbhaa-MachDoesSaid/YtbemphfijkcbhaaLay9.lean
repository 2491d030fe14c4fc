/- mach.pages.lay: bytes into one page. -/
import Derived.Test.YtbemphfijkcbhaaSettle
namespace Go.Proofs.Ytbemphfijkcbhaa
open Go.RowKit Go.Maps
attribute [local go_sem ↓ high] zeroPg

theorem wl_copy {P : Program} {ops : Array Oper} {Q : Exit → Act → World → Prop} {a : Act} {w w' : World} {rest : List Oper} {o : Oper} (hg : o.guard = none) (d s : Operand) (t t' : TypeId)
    (ho : o.op = .call { callee := .builtin .copy, args := #[d, s], argTypes := #[t, t'] }) (v u : Value) (hd : a.eval d = v) (hs : a.eval s = u) {v' : Value}
    (hr : ∀ ty, (Builtin.copy_ #[t, t'] ty #[v, u]).run P w = .ok v' w') (h : wpList P ops Q rest (a.put o.dst v') w') : wpList P ops Q (o :: rest) a w :=
  wpList_plain hg fun _ hK => ow_copy d s t t' ho v u hd hs (hr _) (hK _ _ h)
theorem addr_off (g m : Nat) : ((⟨g, 0, none⟩ : Addr).add (m * 1)) = ⟨g, m, none⟩ := by
  unfold Addr.add; by_cases h0 : m = 0 <;> simp [h0]
theorem page_low (f : Nat) (hf : f < 4096) (g : Nat) (w : World) :
    (Instr.sliceAt 134 (.pointer (some ⟨g, 0, none⟩)) (some (.int .u64 (f : Int))) none none).run Try.prog w = .ok (.slice (some ⟨g, f, none⟩) (4096 - f) (4096 - f)) w := by
  have hal : Try.prog.arrayLen 134 = 4096 := by kernel_rfl
  rw [run_sliceAt_array_l w 134 ⟨g, 0, none⟩ (by kernel_rfl) .u64 (f : Int) (by omega) (by rw [hal]; omega)]
  have hs : (sizeOf (Try.prog.elem 134)).run Try.prog w = .ok 1 w := by kernel_rfl
  rw [hs]
  simp only [Result.andThen_ok, slicedAt, hal, Int.toNat_natCast]
  rw [if_neg (by omega), addr_off]
theorem page_cut (f t : Nat) (hf : f ≤ t) (ht : t ≤ 4096) (hf2 : f < 4096) (g : Nat) (w : World) :
    (Instr.sliceAt 134 (.pointer (some ⟨g, 0, none⟩)) (some (.int .u64 (f : Int))) (some (.int .u64 (t : Int))) none).run Try.prog w = .ok (.slice (some ⟨g, f, none⟩) (t - f) (4096 - f)) w := by
  have hal : Try.prog.arrayLen 134 = 4096 := by kernel_rfl
  rw [run_sliceAt_array_lh w 134 ⟨g, 0, none⟩ (by kernel_rfl) .u64 .u64 (f : Int) (t : Int) (by omega) (by omega) (by rw [hal]; omega)]
  have hs : (sizeOf (Try.prog.elem 134)).run Try.prog w = .ok 1 w := by kernel_rfl
  rw [hs]
  simp only [Result.andThen_ok, slicedAt, hal, Int.toNat_natCast]
  rw [if_neg (by omega), addr_off]
theorem info8 : (Try.prog.info? 5).map (·.size) = some 1 := by kernel_rfl
theorem wrM_page (m : Bytes8) (x f : Nat) (l : List UInt8) : ∀ i, i < 4096 → spl f l.length (bys fun j => l.getD j 0) (bys fun i => m (x + i)) i = bys (fun i => wrM m (x + f) l (x + i)) i := by
  intro i _
  unfold spl wrM bys
  by_cases h : f ≤ i ∧ i < f + l.length
  · dsimp only
    rw [if_pos h, if_pos (by omega), show x + i - (x + f) = i - f by omega]
  · dsimp only
    rw [if_neg h, if_neg (by omega)]
set_option maxRecDepth 100000 in
set_option maxHeartbeats 1000000 in
/-- The page is there: the copy, then settle. What is known ahead of it is the page's alone (X). -/
theorem lay_end {w : World} {G : Nat → Prop} {b n x g : Nat} {D : DataW Unit} {m : Bytes8} {X : Nat → Prop} (hX : ∀ k, X k → k = x) (hP : Pg w G b n D m X) (hk : pm D x = some g) (f : Nat) (l : List UInt8) (hf : f + l.length ≤ 4096) {W : World}
    (hW : W = w.setRow g (vec 4096 (spl f l.length (bys fun j => l.getD j 0) (bys fun i => m (x + i))))) :
    Calls Try.prog 78 #[.map (some b), .int .u64 (x : Int)] W fun e w' => e = .returned (.tuple #[]) ∧
      ∃ D', Pg w' G b n D' (wrM m (x + f) l) noX ∧ Turn G w w' := by
  have hc : W = w.setRow g (vec 4096 (bys fun i => wrM m (x + f) l (x + i))) := by rw [hW, vec_congr (wrM_page m x f l)]
  have h1 : Pg W G b n D (wrM m (x + f) l) (fun j => X j ∨ j = x) := by
    rw [hc]
    exact hP.store hk fun a ha => by unfold wrM; rw [if_neg (by omega)]
  have h2 : Pg W G b n D (wrM m (x + f) l) (fun j => j = x) := h1.wide fun k hk => hk.elim (hX k) id
  have ht : Turn G w W := by rw [hW]; exact (Turn.refl G w).setRow (Or.inl (hP.pg x g hk).1) _
  refine (settle_any h2 hk).mono ?_
  rintro e w' ⟨rfl, ⟨hn, rfl⟩ | ⟨hz, hd⟩⟩
  · exact ⟨rfl, D, h2.clean hn, ht⟩
  · obtain ⟨w2, hd2, ho, hm⟩ := del_run h2.own (h2.pg x g hk).2.2.1
    obtain rfl : w' = w2 := by
      unfold DelRun at hd hd2
      rw [hd] at hd2
      injection hd2
    refine ⟨rfl, _, h2.del hz ho hm, ht.andThen (Turn.of_grown hm.grown fun r hr => ?_)⟩
    cases hr
    exact h2.gb
def ZP : Obj := .cells (vec 4096 (bys fun _ => 0)) 134
/-- What a walk is to know once the page is there. -/
structure LayOk (w : World) (G : Nat → Prop) (b n x g f : Nat) (m : Bytes8) (l : List UInt8) (a : Addr) (c : Nat) : Prop where
  look : (Instr.lookup 85 (.map (some b)) (.int .u64 (x : Int)) false).run Try.prog w = .ok (.pointer (some ⟨g, 0, none⟩)) w
  copy : ∀ ty, (Builtin.copy_ #[41, 41] ty #[.slice (some ⟨g, f, none⟩) (4096 - f) (4096 - f), .slice (some a) l.length c]).run Try.prog w = .ok (goInt (l.length : Nat)) (w.setRow g (vec 4096 (spl f l.length (bys fun j => l.getD j 0) (bys fun i => m (x + i)))))
  fin : ∀ W, W = w.setRow g (vec 4096 (spl f l.length (bys fun j => l.getD j 0) (bys fun i => m (x + i)))) → Calls Try.prog 78 #[.map (some b), .int .u64 (x : Int)] W fun e w' => e = .returned (.tuple #[]) ∧
      ∃ D', Pg w' G b n D' (wrM m (x + f) l) noX ∧ Turn G w w'
theorem lay_ok {w : World} {G : Nat → Prop} {b n x g : Nat} {D : DataW Unit} {m : Bytes8} {X : Nat → Prop} (hX : ∀ k, X k → k = x) (hP : Pg w G b n D m X) (hk : pm D x = some g) (f : Nat) (l : List UInt8) (hf : f + l.length ≤ 4096)
    (a : Addr) (c : Nat) {B : Nat} (hA : Lies w B 1 (some a) l.length (u8s l)) : LayOk w G b n x g f m l a c where
  look := by
    have := hP.look (hP.pg x g hk).2.2.1
    rw [hk] at this
    exact this
  copy := fun ty => run_copy_spl l.length (hP.pg x g hk).2.2.2.1 Try.underlying41 info8 (Nat.min_eq_left (by omega)).symm (fun j hj => by
      obtain ⟨p, e, _, hc⟩ := hA.2 (by omega)
      cases e
      rw [hc j (by simp [u8s]; omega)]
      simp [u8s, bys, List.getD_eq_getElem?_getD, List.getElem?_eq_getElem hj]) hf (fun _ _ => rfl)
  fin := fun W hW => lay_end hX hP hk f l hf hW
set_option maxRecDepth 100000 in
set_option maxHeartbeats 1000000 in
theorem lay_any {w : World} {G : Nat → Prop} {b n x : Nat} {D : DataW Unit} {m : Bytes8} (hP : Pg w G b n D m noX) (hn : n < maxLen) (hx4 : x % 4096 = 0) (hx : x < 18446744073709551616) (f : Nat) (l : List UInt8) (hl : 0 < l.length) (hf : f + l.length ≤ 4096)
    (a : Addr) (c : Nat) (hA : Lies w w.heap.size 1 (some a) l.length (u8s l)) (hag : ¬ G a.block) :
    Calls Try.prog 67 #[.map (some b), .int .u64 (x : Int), .int .u64 (f : Int), .slice (some a) l.length c] w fun e w' => e = .returned (.tuple #[]) ∧
      ∃ G' D', Pg w' G' b (n + 1) D' (wrM m (x + f) l) noX ∧ Turn G w w' ∧ ∀ i, G' i → G i ∨ w.heap.size ≤ i := by
  have HS := Lib.hid (page_low f (by omega))
  cases hk : pm D x with
  | some g =>
    obtain ⟨h1, h2, h3⟩ := lay_ok (X := noX) (fun _ h => h.elim) hP hk f l hf a c hA
    have HL := Lib.hid h1
    have HR := Lib.hid h2
    have HE := Lib.hid h3
    clear hP hk hA h1 h2 h3
    go_enter Try.func67, Try.ntmps67
    have hlk := HL.out
    have hsl := HS.out
    have hcp := HR.out
    go_wp2_with (go_at_call 78; refine (HE.out _ rfl).mono ?_; rintro e w1 ⟨rfl, D', hP', hT'⟩)
    go_end0
    exact ⟨rfl, G, D', hP'.mono (Nat.le_succ _), hT', fun i hi => Or.inl hi⟩
  | none =>
    have hlk0 := hP.look hx
    rw [hk] at hlk0
    simp only [pval] at hlk0
    have HL := Lib.hid hlk0
    have HO := Lib.hid (hP.own.alloc ZP)
    have HN : Hid (∀ w2, w2.ownsMap Try.prog 22 ptrR b (n + 1) (D.put (klit x) (.lit (.int .i64 (w.heap.size : Int)))) → (w.alloc ZP).mapTurned w2 b →
        LayOk w2 (fun i => G i ∨ i = w.heap.size) b (n + 1) x w.heap.size f m l a c ∧ Turn G w w2) := Lib.hid fun w2 ho hm => by
      have hp := hP.put hx4 hx hk (g := w.heap.size) rfl rfl ho hm
      have ht : Turn G w w2 := ((Turn.refl G w).alloc ZP).andThen (Turn.of_grown hm.grown fun r hr => by cases hr; exact hP.gb)
      exact ⟨lay_ok (fun _ h => h) hp (pm_put_same hP.own.isMap hx _) f l hf a c (hA.turn ht (Nat.le_refl _) fun p e _ => by cases e; exact hag), ht⟩
    clear hP hk hA hlk0
    go_enter Try.func67, Try.ntmps67
    have hlk := HL.out
    have hsl := HS.out
    go_wp2_with (first
      | (at_mapUpdate; refine wpList_mapUpdate_in _ rfl _ _ _ 85 rfl 22 100 kLaw Try.underlying85 ptrR b n D rfl HO.out hn _ _ (klit x) rfl rfl (klit_key hx) _ [] (ptrR_at _) ?_; intro w2 hown2 hturn2; obtain ⟨⟨h1, h2, h3⟩, h4⟩ := HN.out w2 hown2 hturn2; have HE := Lib.hid h3; have HT := Lib.hid h4; clear hlk h3 h4 hown2 hturn2)
      | (go_at_call 78; refine (HE.out _ rfl).mono ?_; rintro e w1 ⟨rfl, D', hP', hT'⟩))
    go_end0
    exact ⟨rfl, _, D', hP', HT.out.trans hT' fun i hi => hi.imp id fun e => by rw [e]; exact Nat.le_refl _, fun i hi => hi.imp id fun e => by rw [e]; exact Nat.le_refl _⟩
end Go.Proofs.Ytbemphfijkcbhaa
