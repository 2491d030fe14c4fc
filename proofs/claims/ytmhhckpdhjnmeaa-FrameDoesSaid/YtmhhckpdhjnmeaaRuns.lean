/- span.runs: the longest spans of addresses that are as they must be. -/
import Derived.Shelf.AbstractIn
import Derived.Test.YtmhhckpdhjnmeaaRun
namespace Go.Proofs.Ytmhhckpdhjnmeaa
open Go.RowKit Go.Shelf
attribute [local go_sem] Oper.semAt_some
attribute [local go_sem ↓ high] builtin_appS

theorem nodup_len : ∀ (l m : List Nat), l.Nodup → (∀ x ∈ l, x ∈ m) → l.length ≤ m.length
  | [], _, _, _ => Nat.zero_le _
  | x :: r, m, hn, hs => by
    obtain ⟨h1, h2⟩ := List.nodup_cons.1 hn
    have hx := hs x (by simp)
    have := nodup_len r (m.erase x) h2 fun y hy => (List.mem_erase_of_ne (fun e => h1 (by rw [← e]; exact hy))).2 (hs y (by simp [hy]))
    rw [List.length_erase_of_mem hx] at this
    have := List.length_pos_of_mem hx
    rw [List.length_cons]; omega
theorem borders_len {l : List Sp} {bs : List Nat} (h : Borders l bs) : bs.length ≤ 2 * l.length :=
  Nat.le_trans (nodup_len _ _ (h.1.imp fun h => by omega) fun x hx => (h.2 x).1 hx) (ends_len l)
/-- At the end: the block for what is put off. -/
theorem fin_deferred {w W : World} {D : Nat} {v : Value} {L : List Sp} (hD : w.heap.size ≤ D) (hown : OwnS W w.heap.size v L) (hB : Below w.heap.size w W) (hK : W.heap[D]? = some (.deferred (some []))) :
    OwnS (W.putObj D (.deferred none)) w.heap.size v L ∧ Below w.heap.size w (W.putObj D (.deferred none)) :=
  ⟨ownsRow_putObj hown _ hK rfl, hB.trans (belowK_b (w := w) (Nat.le_refl _) W D _ _ hD hK rfl rfl)⟩
theorem fin_top {w W : World} {D : Nat} {v : Value} {out m : List Sp} (cs : Array Value) (hm : m.length ≤ 2) (hol : out.length + 2 ≤ 1000000) (h5 : Boxed W (w.heap.size + 1) 46 v) (hown : OwnS W w.heap.size v out) (hB : Below w.heap.size w W) (hK : W.heap[D]? = some (.deferred (some []))) (hcs : cs.toList = cells2 m) (hm0 : 0 < m.length) (n : Nat) (hn : m.length = n) :
    ∃ (g c : Nat) (w3 : World), (appS #[46, 46] 46 #[v, .slice (some ⟨W.heap.size, 0, none⟩) n n]).run Try.prog (W.alloc (.cells cs 24)).drew = .ok (.slice (some ⟨g, 0, none⟩) (out.length + n) c) w3 ∧
      (W.alloc (.cells cs 24)).cell? ⟨w.heap.size + 1, 0, none⟩ = some v ∧ w3.cell? ⟨w.heap.size + 1, 0, none⟩ = some v ∧ w3.frozen? ⟨w.heap.size + 1, 0, none⟩ = false ∧
      (w3.setCell ⟨w.heap.size + 1, 0, none⟩ (.slice (some ⟨g, 0, none⟩) (out.length + n) c)).heap[D]? = some (.deferred (some [])) ∧
      OwnS (w3.setCell ⟨w.heap.size + 1, 0, none⟩ (.slice (some ⟨g, 0, none⟩) (out.length + n) c)) w.heap.size (.slice (some ⟨g, 0, none⟩) (out.length + n) c) (out ++ m) ∧ Below w.heap.size w (w3.setCell ⟨w.heap.size + 1, 0, none⟩ (.slice (some ⟨g, 0, none⟩) (out.length + n) c)) := by
  subst hn
  have h5d : Boxed W.drew (w.heap.size + 1) 46 v := h5
  have hod : OwnS W.drew w.heap.size v out := hown
  obtain ⟨v', w3, e1, e2, e3⟩ := app2_run W.drew w.heap.size v out m hod hB.size (by omega) 46 cs hcs
  have e2' := e2
  rw [List.length_append] at e2'
  obtain ⟨k, hk⟩ : ∃ k, out.length + m.length = k + 1 := ⟨out.length + m.length - 1, by omega⟩
  rw [hk] at e2'
  obtain ⟨g, c, hv'⟩ := ownsRow_succ e2'
  rw [← hk] at hv'
  subst hv'
  obtain ⟨a1, a2, a3, a4, a5⟩ := h5d.appended (by decide) hod (show w.heap.size ≤ W.drew.heap.size from hB.size) (by omega) e2 e3
  refine ⟨g, c, w3, e1, (h5.alloc _).cell, a1.cell, a1.frozen, ?_, ?_, hB.trans ?_⟩
  · exact a4.same D _ hK rfl
  · unfold OwnS
    have := a3
    rw [List.length_append] at this ⊢
    exact this
  · exact ⟨a5.os, a5.tape, a5.output, a5.size, a5.block⟩
set_option maxRecDepth 100000 in
set_option maxHeartbeats 4000000 in
theorem runs_any (M : Nat) (hsort : SortsAt M) (gm : Nat) (lbm : Array Value) (eg : ∀ args w, (callFunc gm args).run Try.prog w = .ok (.enter gm args) w) (must : Nat → Bool) (A : Option Addr) (cap : Nat) (l : List Sp) (hl : ∀ x ∈ l, fit x) (hlen : l.length ≤ 100000) (hM : (allB l).length ≤ M)
    (w : World) (hR : Row w w.heap.size A l)
    (hmust : ∀ p, p < TT → ∀ W', Below w.heap.size w W' → Calls Try.prog gm (#[.int .u64 (p : Int)] ++ lbm) W' fun e w' => e = .returned (.bool (must p)) ∧ Below W'.heap.size W' w') :
    Calls Try.prog 36 #[.func (.func gm) #[] lbm, .slice A l.length cap] w fun e w' => ∃ v bs, e = .returned v ∧ Borders l bs ∧ OwnS w' w.heap.size v (runS must bs) ∧ Below w.heap.size w w' := by
  have hmx : Try.prog.follows .mixedOrders = true := by kernel_rfl
  refine (callsIn_wide (n := 10)).1 ?_
  refine callsIn_of_wp_marks Try.func36 rfl trivial ?_ rfl
  simp only [Try.ntmps36, List.size_toArray, List.length_cons, List.length_nil, Nat.reduceAdd, Nat.reduceSub, Array.replicate_succ, Array.replicate_zero, List.push_toArray, List.append_toArray, List.nil_append, List.cons_append]
  gi_wp2_with (refine ⟨trivial, ?_⟩; gi_at_call 45; refine (callsIn_wide.2 (borders_in _ _ _ _)).mono ?_; rintro e w' ⟨rfl, rfl⟩)
  have egb : ∀ args w, (callFunc 58 args).run Try.prog w = .ok (.enter 58 args) w := enters_of Try.func58 (by kernel_rfl) rfl
  have r0 : RunAt w (.func (.func gm) #[] lbm) must (nums []) (((((w.alloc (.cells #[.func (.func gm) #[] lbm] 43)).alloc (.cells #[.slice none 0 0] 46)).alloc (.cells #[.int .u64 0] 22)).alloc (.cells #[.bool false] 4)).alloc (.cells #[.slice A l.length cap] 46)) := by
    have b2 := Boxed.new w 43 (.func (.func gm) #[] lbm)
    have b5 := Boxed.new (w.alloc (.cells #[.func (.func gm) #[] lbm] 43)) 46 (.slice none 0 0)
    have b6 := Boxed.new ((w.alloc (.cells #[.func (.func gm) #[] lbm] 43)).alloc (.cells #[.slice none 0 0] 46)) 22 (.int .u64 0)
    have b7 := Boxed.new (((w.alloc (.cells #[.func (.func gm) #[] lbm] 43)).alloc (.cells #[.slice none 0 0] 46)).alloc (.cells #[.int .u64 0] 22)) 4 (.bool false)
    simp only [World.size_alloc] at b5 b6 b7
    exact ⟨⟨⟨⟨(b6.alloc _).alloc _, b7.alloc _⟩, _, ((b5.alloc _).alloc _).alloc _, World.ownsRow_nil _ _ _ _, trivial⟩, (((b2.alloc _).alloc _).alloc _).alloc _⟩,
      (((((Below.refl _ w).alloc (Nat.le_refl _) _).alloc (by simp) _).alloc (by simp; omega) _).alloc (by simp; omega) _).alloc (by simp; omega) _⟩
  have hcB : (((((w.alloc (.cells #[.func (.func gm) #[] lbm] 43)).alloc (.cells #[.slice none 0 0] 46)).alloc (.cells #[.int .u64 0] 22)).alloc (.cells #[.bool false] 4)).alloc (.cells #[.slice A l.length cap] 46)).cell? ⟨w.heap.size + 1 + 1 + 1 + 1, 0, none⟩ = some (.slice A l.length cap) := by
    have := (Boxed.new ((((w.alloc (.cells #[.func (.func gm) #[] lbm] 43)).alloc (.cells #[.slice none 0 0] 46)).alloc (.cells #[.int .u64 0] 22)).alloc (.cells #[.bool false] 4)) 46 (.slice A l.length cap)).cell
    simp only [World.size_alloc] at this
    exact this
  have hs0 : (((((w.alloc (.cells #[.func (.func gm) #[] lbm] 43)).alloc (.cells #[.slice none 0 0] 46)).alloc (.cells #[.int .u64 0] 22)).alloc (.cells #[.bool false] 4)).alloc (.cells #[.slice A l.length cap] 46)).heap.size = w.heap.size + 5 := by simp
  obtain ⟨W0, hW0⟩ : ∃ W0, (((((w.alloc (.cells #[.func (.func gm) #[] lbm] 43)).alloc (.cells #[.slice none 0 0] 46)).alloc (.cells #[.int .u64 0] 22)).alloc (.cells #[.bool false] 4)).alloc (.cells #[.slice A l.length cap] 46)) = W0 := ⟨_, rfl⟩
  rw [hW0] at r0 hcB hs0 ⊢
  clear hW0
  have hbt := borders_tells M hsort (w.heap.size + 1 + 1 + 1 + 1) cap A l hl hlen hM W0 (by omega) hcB ((hR.below r0.2).wide (by omega))
  refine range_tells (by omega) (gf := 58) (lb := #[.pointer (some ⟨w.heap.size + 1 + 1 + 1 + 1, 0, none⟩)]) rfl egb hbt Keeps.trans ?kb (Below.refl _ _) (fun _ => rfl)
    (fun pre W => RunAt w (.func (.func gm) #[] lbm) must (nums pre) W) (runAt_own _ _ _ _ (by omega)) r0
    (fun x => { tmps := #[.func (.func gm) #[] lbm, .slice A l.length cap, .pointer (some ⟨w.heap.size, 0, none⟩), undef, .slice none 0 0, .pointer (some ⟨w.heap.size + 1, 0, none⟩), .pointer (some ⟨w.heap.size + 1 + 1, 0, none⟩), .pointer (some ⟨w.heap.size + 1 + 1 + 1, 0, none⟩), .int .u64 (x.1 : Int), undef, .slice A l.length cap, .func (.func 58) #[] #[.pointer (some ⟨w.heap.size + 1 + 1 + 1 + 1, 0, none⟩)], .int .u64 (x.1 : Int), undef, undef, undef, undef, undef, undef, undef, undef, undef, undef, undef, undef, undef, undef, undef, undef, undef, undef, undef, undef, undef, undef, undef, undef, undef, undef, undef, undef, undef], defers := [] })
    ?assign ?body ?done
  case kb =>
    intro W r r' hWr
    refine ⟨by simp [World.putObj], fun k o _ ho hko => ?_⟩
    refine (World.putObj_heap_other ?_).trans ho
    intro e
    subst e
    rw [hWr] at ho
    cases ho
    exact hko
  case assign =>
    intro lq x W K hK
    gi_wp2
    exact hK
  case body =>
    rintro lq pre ⟨p, hp⟩ W hrun hlt
    have hrun' := hrun
    obtain ⟨⟨⟨⟨h6, h7⟩, v, h5, hown, _⟩, h2⟩, hB⟩ := hrun'
    have c2 := h2.cell
    have hfl : (foldW must (nums pre)).1 < TT := foldW_lt must (nums pre) (fun b hb => by obtain ⟨y, _, rfl⟩ := List.mem_map.1 hb; exact y.2)
    have hol : (foldW must (nums pre)).2.2.length + 1 ≤ 1000000 := by
      have := foldW_len must (nums pre)
      have e : (nums pre).length = pre.length := by simp [nums]
      omega
    have hsn : nums (pre ++ [⟨p, hp⟩]) = nums pre ++ [p] := nums_snoc _ _
    have hcall := hmust p hp W hB
    have hat2 : ∀ w2, Below W.heap.size W w2 → w2.cell? ⟨w.heap.size + 1 + 1, 0, none⟩ = some (.int .u64 ((foldW must (nums pre)).1 : Int)) ∧ w2.frozen? ⟨w.heap.size + 1 + 1, 0, none⟩ = false ∧ w2.cell? ⟨w.heap.size + 1 + 1 + 1, 0, none⟩ = some (.bool (foldW must (nums pre)).2.1) ∧ w2.frozen? ⟨w.heap.size + 1 + 1 + 1, 0, none⟩ = false := fun w2 hd => by
      have a6 : Boxed w2 _ _ _ := (hd.block _ h6.lt).trans h6
      have a7 : Boxed w2 _ _ _ := (hd.block _ h7.lt).trans h7
      exact ⟨a6.cell, a6.frozen, a7.cell, a7.frozen⟩
    have At2 := Lib.hid hat2
    have HRun := Lib.hid hrun
    have hs0' := Lib.hid hs0
    cases ho : (foldW must (nums pre)).2.1 <;> cases hm : must p <;> rw [hm] at hcall
    · have fin := fun w2 (hd : Below W.heap.size W w2) => runAt_same (p := p) (hrun.below hd) (by rw [hm, ho])
      rw [ho] at fin
      rw [← hsn] at fin
      have Fin := Lib.hid fin
      have Hcall := Lib.hid hcall
      clear hat2 hrun h6 h7 h5 hown h2 hB hfl hol hsn hcall hlt hbt hcB r0 hs0 hR hl hlen hM hsort hmust fin
      gi_wp2_with (refine ⟨trivial, ?_⟩; gi_at_fn gm; refine (CallsIn.inRound lq (callsIn_wide.2 Hcall.out)).mono ?_; rintro e w2 ⟨rfl, hd⟩; obtain ⟨k1, k2, k3, k4⟩ := At2.out w2 hd; rw [ho] at k3; have Hd := Lib.hid hd; clear hd)
      exact ⟨((keepsOthers_below Hd.out).trans (KeepsOthers.setCell _ _ _)).from _, (keeps_below Hd.out).trans (keeps_set _ (by have := hs0'.out; omega) _), Fin.out _ Hd.out⟩
    · have fin := fun w2 (hd : Below W.heap.size W w2) => runAt_tf (p := p) (hrun.below hd) hm ho
      rw [← hsn] at fin
      have Fin := Lib.hid fin
      clear fin
      have Hcall := Lib.hid hcall
      clear hat2 hrun h6 h7 h5 hown h2 hB hfl hol hsn hcall hlt hbt hcB r0 hs0 hR hl hlen hM hsort hmust
      gi_wp2_with (refine ⟨trivial, ?_⟩; gi_at_fn gm; refine (CallsIn.inRound lq (callsIn_wide.2 Hcall.out)).mono ?_; rintro e w2 ⟨rfl, hd⟩; obtain ⟨k1, k2, k3, k4⟩ := At2.out w2 hd; rw [ho] at k3; have Hd := Lib.hid hd; clear hd)
      exact ⟨((keepsOthers_below Hd.out).trans ((KeepsOthers.setCell _ _ _).trans (KeepsOthers.setCell _ _ _))).from _, (keeps_below Hd.out).trans ((keeps_set _ (by have := hs0'.out; omega) _).trans (keeps_set _ (by have := hs0'.out; omega) _)), Fin.out _ Hd.out⟩
    · have hws := wrap_sub p (foldW must (nums pre)).1 hp hfl
      have fin : ∀ w2, Below W.heap.size W w2 → ∃ (g c : Nat) (w3 : World), w2.cell? ⟨w.heap.size + 1, 0, none⟩ = some v ∧
          (appS #[46, 46] 46 #[v, .slice (some ⟨w2.heap.size, 0, none⟩) 1 1]).run Try.prog (w2.alloc (.cells #[.int .u64 ((foldW must (nums pre)).1 : Int), .int .u64 (wsub p (foldW must (nums pre)).1 : Int)] 24)) = .ok (.slice (some ⟨g, 0, none⟩) ((foldW must (nums pre)).2.2.length + 1) c) w3 ∧
          w3.cell? ⟨w.heap.size + 1, 0, none⟩ = some v ∧ w3.frozen? ⟨w.heap.size + 1, 0, none⟩ = false ∧ w3.cell? ⟨w.heap.size + 1 + 1 + 1, 0, none⟩ = some (.bool true) ∧ w3.frozen? ⟨w.heap.size + 1 + 1 + 1, 0, none⟩ = false ∧
          KeepsFrom W0.heap.size W ((w3.setCell ⟨w.heap.size + 1, 0, none⟩ (.slice (some ⟨g, 0, none⟩) ((foldW must (nums pre)).2.2.length + 1) c)).setCell ⟨w.heap.size + 1 + 1 + 1, 0, none⟩ (.bool false)) ∧
          Keeps W0.heap.size W ((w3.setCell ⟨w.heap.size + 1, 0, none⟩ (.slice (some ⟨g, 0, none⟩) ((foldW must (nums pre)).2.2.length + 1) c)).setCell ⟨w.heap.size + 1 + 1 + 1, 0, none⟩ (.bool false)) ∧
          RunAt w (.func (.func gm) #[] lbm) must (nums (pre ++ [⟨p, hp⟩])) ((w3.setCell ⟨w.heap.size + 1, 0, none⟩ (.slice (some ⟨g, 0, none⟩) ((foldW must (nums pre)).2.2.length + 1) c)).setCell ⟨w.heap.size + 1 + 1 + 1, 0, none⟩ (.bool false)) := by
        intro w2 hd
        have b5 : Boxed w2 _ _ _ := (hd.block _ h5.lt).trans h5
        have b7 : Boxed w2 _ _ _ := (hd.block _ h7.lt).trans h7
        have hw2 : w.heap.size ≤ w2.heap.size := Nat.le_trans hB.size hd.size
        have ho2 : OwnS w2 w.heap.size v (foldW must (nums pre)).2.2 := OwnS.below hown hd
        obtain ⟨v', w3, e1, e2, e3⟩ := app2_run w2 w.heap.size v (foldW must (nums pre)).2.2 [((foldW must (nums pre)).1, wsub p (foldW must (nums pre)).1)] ho2 hw2 (by simpa using hol) 46 #[.int .u64 ((foldW must (nums pre)).1 : Int), .int .u64 (wsub p (foldW must (nums pre)).1 : Int)] rfl
        have e2' := e2
        rw [List.length_append] at e2'
        obtain ⟨g, c, rfl⟩ := ownsRow_succ e2'
        obtain ⟨f1, f2, f3⟩ := runAt_ft (N0 := W0.heap.size) (hrun.below hd) hm ho b5 ho2 e2 e3 (by omega)
        have p5 := Boxed.past b5 (by decide) ho2 e3
        have p7 := Boxed.past b7 (by decide) ho2 e3
        rw [ho] at p7
        rw [hsn]
        exact ⟨g, c, w3, b5.cell, e1, p5.cell, p5.frozen, p7.cell, p7.frozen, ((keepsOthers_below hd).trans f2).from _, (keeps_below hd).trans f3, f1⟩
      have Fin := Lib.hid fin
      have Hcall := Lib.hid hcall
      clear hat2 hrun h6 h7 h5 hown h2 hB hfl hol hsn hcall hlt hbt hcB r0 hs0 hR hl hlen hM hsort hmust fin
      gi_wp2_with (refine ⟨trivial, ?_⟩; gi_at_fn gm; refine (CallsIn.inRound lq (callsIn_wide.2 Hcall.out)).mono ?_; rintro e w2 ⟨rfl, hd⟩; obtain ⟨k1, k2, k3, k4⟩ := At2.out w2 hd; rw [ho] at k3; obtain ⟨g, c, w3, q1, q2, q3, q4, q5, q6, q7⟩ := Fin.out w2 hd; have Q7 := Lib.hid q7; clear hd q7)
      exact Q7.out
    · have fin := fun w2 (hd : Below W.heap.size W w2) => runAt_same (p := p) (hrun.below hd) (by rw [hm, ho])
      rw [ho] at fin
      rw [← hsn] at fin
      have Fin := Lib.hid fin
      have Hcall := Lib.hid hcall
      clear hat2 hrun h6 h7 h5 hown h2 hB hfl hol hsn hcall hlt hbt hcB r0 hs0 hR hl hlen hM hsort hmust fin
      gi_wp2_with (refine ⟨trivial, ?_⟩; gi_at_fn gm; refine (CallsIn.inRound lq (callsIn_wide.2 Hcall.out)).mono ?_; rintro e w2 ⟨rfl, hd⟩; obtain ⟨k1, k2, k3, k4⟩ := At2.out w2 hd; rw [ho] at k3; have Hd := Lib.hid hd; clear hd)
      exact ⟨((keepsOthers_below Hd.out).trans (KeepsOthers.setCell _ _ _)).from _, (keeps_below Hd.out).trans (keeps_set _ (by have := hs0'.out; omega) _), Fin.out _ Hd.out⟩
  case done =>
    rintro D ys W hD hbo hrun hK
    have hrun' := hrun
    obtain ⟨⟨⟨⟨h6, h7⟩, v, h5, hown, _⟩, h2⟩, hB⟩ := hrun'
    have hlt : ∀ b ∈ nums ys, b < TT := fun b hb => by obtain ⟨y, _, rfl⟩ := List.mem_map.1 hb; exact y.2
    have hfe := foldW_eq must (nums ys) hbo.1 hlt
    have hfl : (foldW must (nums ys)).1 < TT := foldW_lt must (nums ys) hlt
    have hol : (foldW must (nums ys)).2.2.length + 2 ≤ 1000000 := by
      have := foldW_len must (nums ys)
      have := borders_len hbo
      omega
    have c5 := h5.cell
    have c6 := h6.cell
    have c7 := h7.cell
    have HBO := Lib.hid hbo
    have hrs : runS must (nums ys) = if (foldS must (nums ys)).2.1 then (foldS must (nums ys)).2.2 ++ topS (foldS must (nums ys)).1 else (foldS must (nums ys)).2.2 := rfl
    rw [← hfe] at hrs
    cases ho : (foldW must (nums ys)).2.1 <;> rw [ho] at hrs c7
    · have Fin := Lib.hid (fin_deferred (show w.heap.size ≤ D by omega) hown hB hK)
      have HK := Lib.hid hK
      have Hrs := Lib.hid hrs
      clear hK hbo hrun h6 h7 h5 hown h2 hB hlt hfe hfl hol hrs hbt hcB r0 hs0 hR hl hlen hM hsort hmust
      gi_wp2
      refine ⟨by simp, .inl ⟨_, _, rfl, run_takeDeferred HK.out, ?_⟩⟩
      refine ⟨_, results_tmp rfl _ _ _, v, nums ys, rfl, HBO.out, ?_, Fin.out.2⟩
      have e := Hrs.out
      rw [if_neg (by decide)] at e
      rw [e]
      exact Fin.out.1
    · rw [if_pos rfl] at hrs
      by_cases hf0 : (foldW must (nums ys)).1 = 0
      · rw [hf0] at hrs c6
        obtain ⟨g, c, w3, q1, q2, q3, q4, q5, q6, q7⟩ := fin_top (m := [(0, half), (half, half)]) #[.int .u64 0, .int .u64 9223372036854775808, .int .u64 9223372036854775808, .int .u64 9223372036854775808] (by decide) hol h5 hown hB hK rfl (by decide) 2 rfl
        have Fin := Lib.hid (fin_deferred (show w.heap.size ≤ D by omega) q6 q7 q5)
        have HK := Lib.hid q5
        have Hrs := Lib.hid hrs
        clear hK q5 q6 q7 hbo hrun h6 h7 h5 hown h2 hB hlt hfe hfl hol hrs hbt hcB r0 hs0 hR hl hlen hM hsort hmust
        gi_wp2
        gi_region_with_o (refine ⟨trivial, ?_⟩; gi_at_call 46; refine (callsIn_wide.2 (top_zero _)).mono ?_; rintro e w' ⟨rfl, rfl⟩)
        all_goals gi_wp2
        all_goals (refine ⟨by simp, .inl ⟨_, _, rfl, run_takeDeferred HK.out, ?_⟩⟩; refine ⟨_, results_tmp rfl _ _ _, _, nums ys, rfl, HBO.out, ?_, Fin.out.2⟩; (have e := Hrs.out); rw [e]; exact Fin.out.1)
      · have hts : topS (foldW must (nums ys)).1 = [((foldW must (nums ys)).1, TT - (foldW must (nums ys)).1)] := by unfold topS; rw [if_neg hf0]
        rw [hts] at hrs
        obtain ⟨g, c, w3, q1, q2, q3, q4, q5, q6, q7⟩ := fin_top (m := [((foldW must (nums ys)).1, TT - (foldW must (nums ys)).1)]) #[.int .u64 ((foldW must (nums ys)).1 : Int), .int .u64 ((TT - (foldW must (nums ys)).1 : Nat) : Int)] (by simp) hol h5 hown hB hK rfl (by simp) 1 rfl
        have htop := fun W3 => top_some (foldW must (nums ys)).1 hf0 hfl W3
        generalize ((TT - (foldW must (nums ys)).1 : Nat) : Int) = z at htop q1 q2
        have Htop := Lib.hid htop
        have Fin := Lib.hid (fin_deferred (show w.heap.size ≤ D by omega) q6 q7 q5)
        have HK := Lib.hid q5
        have Hrs := Lib.hid hrs
        clear hK q5 q6 q7 hts htop hbo hrun h6 h7 h5 hown h2 hB hlt hfe hfl hol hrs hbt hcB r0 hs0 hR hl hlen hM hsort hmust
        gi_wp2
        gi_region_with_o (refine ⟨trivial, ?_⟩; gi_at_call 46; refine (callsIn_wide.2 (Htop.out _)).mono ?_; rintro e w' ⟨rfl, rfl⟩)
        all_goals gi_wp2
        all_goals (refine ⟨by simp, .inl ⟨_, _, rfl, run_takeDeferred HK.out, ?_⟩⟩; refine ⟨_, results_tmp rfl _ _ _, _, nums ys, rfl, HBO.out, ?_, Fin.out.2⟩; (have e := Hrs.out); rw [e]; exact Fin.out.1)
end Go.Proofs.Ytmhhckpdhjnmeaa
