import Derived.Test.YtkaipknkjocfiaaGreatZa27
namespace Go.Proofs.YtkaipknkjocfiaaGreat
open Go.RowKit Go.Maps
attribute [local go_sem ↓ high] zeroSp
structure KSt (B : Nat) (w : World) (p m1 m2 m3 m4 base : Nat) (b : Bd) (wh : Int) (N : Nat) (L1 L2 L3 L4 : List Lit) (mem : List Sp) : Prop where
 ord : B ≤ m1 ∧ m1 < m2 ∧ m2 < m3 ∧ m3 < m4 ∧ m4 < p ∧ p < base ∧ base ≤ w.heap.size
 box : ∃ Am cm, Arr w p 98 13 (kE b wh m1 m2 m3 m4 (.slice Am mem.length cm)) ∧ OwnS w base (.slice Am mem.length cm) mem
 s1 : SetM 9 w m1 N L1
 s2 : SetM 3 w m2 N L2
 s3 : SetM 3 w m3 N L3
 s4 : SetM 27 w m4 N L4
section
variable {B : Nat} {w w' : World} {p m1 m2 m3 m4 base : Nat} {b : Bd} {wh : Int} {N : Nat} {L1 L2 L3 L4 : List Lit} {mem : List Sp}
theorem KSt.under (h : KSt B w p m1 m2 m3 m4 base b wh N L1 L2 L3 L4 mem) (hb : Below w.heap.size w w') : KSt B w' p m1 m2 m3 m4 base b wh N L1 L2 L3 L4 mem := by
 obtain ⟨Am, cm, ha, ho⟩ := h.box
 have := h.ord
 have := hb.size
 exact ⟨by omega, ⟨Am, cm, ha.under hb, ho.on hb (Nat.le_refl _)⟩, h.s1.under hb, h.s2.under hb, h.s3.under hb, h.s4.under hb⟩
theorem KSt.drewN (h : KSt B w p m1 m2 m3 m4 base b wh N L1 L2 L3 L4 mem) (k : Nat) : KSt B (w.drewN k) p m1 m2 m3 m4 base b wh N L1 L2 L3 L4 mem := h.under (below_drewN (Below.refl _ _) k)
theorem KSt.wide {N' : Nat} (h : KSt B w p m1 m2 m3 m4 base b wh N L1 L2 L3 L4 mem) (hn : N ≤ N') : KSt B w p m1 m2 m3 m4 base b wh N' L1 L2 L3 L4 mem := ⟨h.ord, h.box, h.s1.wide hn, h.s2.wide hn, h.s3.wide hn, h.s4.wide hn⟩
theorem KSt.kb (h : KSt B w p m1 m2 m3 m4 base b wh N L1 L2 L3 L4 mem) : KB w p b := by
 obtain ⟨Am, cm, ha, ho⟩ := h.box
 exact KB.of ha
theorem KSt.cell (h : KSt B w p m1 m2 m3 m4 base b wh N L1 L2 L3 L4 mem) : w.cell? ⟨p, 7, none⟩ = some (.int .i64 wh) ∧ w.cell? ⟨p, 8, none⟩ = some (.map (some m1)) ∧ w.cell? ⟨p, 9, none⟩ = some (.map (some m2)) ∧ w.cell? ⟨p, 10, none⟩ = some (.map (some m3)) ∧ w.cell? ⟨p, 11, none⟩ = some (.map (some m4)) ∧ w.frozen? ⟨p, 7, none⟩ = false := by
 obtain ⟨Am, cm, ha, ho⟩ := h.box
 exact ⟨ha.cell (i := 7) (by decide), ha.cell (i := 8) (by decide), ha.cell (i := 9) (by decide), ha.cell (i := 10) (by decide), ha.cell (i := 11) (by decide), ha.frozen 7⟩
theorem OwnS.saveM {K : TypeId} {m n base : Nat} {L : List Lit} {v : Value} {l : List Sp} (ho : OwnS w base v l) (hs : SetM K w m n L) (h : Save m w w') : OwnS w' base v l := by
 refine ⟨ho.1, ?_⟩
 rcases ho.2 with h2 | ⟨k, cap, cur, hv, hk, hh, r⟩
 · exact Or.inl h2
 · refine Or.inr ⟨k, cap, cur, hv, hk, (h.block k (Array.getElem?_eq_some_iff.1 hh).1 ?_).trans hh, r⟩
   rintro rfl
   obtain ⟨es, cl, hb, _⟩ := hs.2
   rw [hh] at hb
   cases hb
theorem KSt.ne (h : KSt B w p m1 m2 m3 m4 base b wh N L1 L2 L3 L4 mem) : p ≠ m1 ∧ p ≠ m2 ∧ p ≠ m3 ∧ p ≠ m4 := by have := h.ord; omega
theorem KSt.take1 {L : List Lit} {N' : Nat} (h : KSt B w p m1 m2 m3 m4 base b wh N L1 L2 L3 L4 mem) (hn : N ≤ N') (hs : Save m1 w w') (hL : SetM 9 w' m1 N' L) : KSt B w' p m1 m2 m3 m4 base b wh N' L L2 L3 L4 mem := by
 obtain ⟨Am, cm, ha, ho⟩ := h.box
 have := h.ord
 have := hs.size
 exact ⟨by omega, ⟨Am, cm, ha.save hs (by omega), ho.saveM h.s1 hs⟩, hL, (h.s2.save hs (by omega)).wide hn, (h.s3.save hs (by omega)).wide hn, (h.s4.save hs (by omega)).wide hn⟩
theorem KSt.take2 {L : List Lit} {N' : Nat} (h : KSt B w p m1 m2 m3 m4 base b wh N L1 L2 L3 L4 mem) (hn : N ≤ N') (hs : Save m2 w w') (hL : SetM 3 w' m2 N' L) : KSt B w' p m1 m2 m3 m4 base b wh N' L1 L L3 L4 mem := by
 obtain ⟨Am, cm, ha, ho⟩ := h.box
 have := h.ord
 have := hs.size
 exact ⟨by omega, ⟨Am, cm, ha.save hs (by omega), ho.saveM h.s2 hs⟩, (h.s1.save hs (by omega)).wide hn, hL, (h.s3.save hs (by omega)).wide hn, (h.s4.save hs (by omega)).wide hn⟩
theorem KSt.take3 {L : List Lit} {N' : Nat} (h : KSt B w p m1 m2 m3 m4 base b wh N L1 L2 L3 L4 mem) (hn : N ≤ N') (hs : Save m3 w w') (hL : SetM 3 w' m3 N' L) : KSt B w' p m1 m2 m3 m4 base b wh N' L1 L2 L L4 mem := by
 obtain ⟨Am, cm, ha, ho⟩ := h.box
 have := h.ord
 have := hs.size
 exact ⟨by omega, ⟨Am, cm, ha.save hs (by omega), ho.saveM h.s3 hs⟩, (h.s1.save hs (by omega)).wide hn, (h.s2.save hs (by omega)).wide hn, hL, (h.s4.save hs (by omega)).wide hn⟩
theorem KSt.take4 {L : List Lit} {N' : Nat} (h : KSt B w p m1 m2 m3 m4 base b wh N L1 L2 L3 L4 mem) (hn : N ≤ N') (hs : Save m4 w w') (hL : SetM 27 w' m4 N' L) : KSt B w' p m1 m2 m3 m4 base b wh N' L1 L2 L3 L mem := by
 obtain ⟨Am, cm, ha, ho⟩ := h.box
 have := h.ord
 have := hs.size
 exact ⟨by omega, ⟨Am, cm, ha.save hs (by omega), ho.saveM h.s4 hs⟩, (h.s1.save hs (by omega)).wide hn, (h.s2.save hs (by omega)).wide hn, (h.s3.save hs (by omega)).wide hn, hL⟩
theorem kE_where {t : TypeId} {mv : Value} (wh' : Int) (h : Arr w p t 13 (kE b wh m1 m2 m3 m4 mv)) : Arr (w.setCell ⟨p, 7, none⟩ (.int .i64 wh')) p t 13 (kE b wh' m1 m2 m3 m4 mv) := by
 refine (h.set 7 _).congr fun i hi => ?_
 unfold upd kE
 by_cases h7 : i = 7
 · subst h7; rfl
 · rw [if_neg h7]
   by_cases h6 : i < 7
   · rw [if_pos h6, if_pos h6]
   · rcases (by omega : i = 8 ∨ i = 9 ∨ i = 10 ∨ i = 11 ∨ i = 12) with rfl | rfl | rfl | rfl | rfl <;> rfl
theorem KSt.setWhere (h : KSt B w p m1 m2 m3 m4 base b wh N L1 L2 L3 L4 mem) (wh' : Int) : KSt B (w.setCell ⟨p, 7, none⟩ (.int .i64 wh')) p m1 m2 m3 m4 base b wh' N L1 L2 L3 L4 mem := by
 obtain ⟨Am, cm, ha, ho⟩ := h.box
 have := h.ord
 exact ⟨by simpa using h.ord, ⟨Am, cm, kE_where wh' ha, ho.setFar (p := ⟨p, 7, none⟩) (by show p < base; omega) _⟩, h.s1.far (a := ⟨p, 7, none⟩) (by show m1 ≠ p; omega) _, h.s2.far (a := ⟨p, 7, none⟩) (by show m2 ≠ p; omega) _, h.s3.far (a := ⟨p, 7, none⟩) (by show m3 ≠ p; omega) _, h.s4.far (a := ⟨p, 7, none⟩) (by show m4 ≠ p; omega) _⟩
theorem SetM.putF {K : TypeId} {m n Bl bs : Nat} {L : List Lit} {v : Value} {l : List Sp} (hs : SetM K w m n L) (ho : OwnS w bs v l) (h : PutF Bl v w w') (hm : m ≠ Bl) : SetM K w' m n L := by
 refine ⟨hs.1, ?_⟩
 obtain ⟨es, cl, hb, r⟩ := hs.2
 have hlt : m < w.heap.size := hs.lt
 refine ⟨es, cl, (h.block m hlt hm ?_).trans hb, r⟩
 intro e
 rcases ho.2 with ⟨rfl, _⟩ | ⟨k, cap, cur, rfl, hk, hh, _⟩
 · simp [Value.ownBlock] at e
 · simp [Value.ownBlock] at e
   subst e
   rw [hb] at hh
   cases hh
theorem KSt.own {mem' : List Sp} {Am : Option Addr} {cm : Nat} (h : KSt B w p m1 m2 m3 m4 base b wh N L1 L2 L3 L4 mem) (ho : OwnS w base (.slice Am mem.length cm) mem) (hp : PutF p (.slice Am mem.length cm) w w')
  (hx : ∃ B d, Arr w' p 98 13 (kE b wh m1 m2 m3 m4 (.slice B mem'.length d)) ∧ OwnS w' base (.slice B mem'.length d) mem') : KSt B w' p m1 m2 m3 m4 base b wh N L1 L2 L3 L4 mem' := by
 have := h.ord
 have := hp.size
 exact ⟨by omega, hx, h.s1.putF ho hp (by omega), h.s2.putF ho hp (by omega), h.s3.putF ho hp (by omega), h.s4.putF ho hp (by omega)⟩
end
def AskP (B : Nat) (s : Nat × Nat) (good : World → Prop) (w : World) (e : Ending) (w' : World) : Prop := ((s = (0, 0) ∧ e = .returned (.tuple #[]) ∧ good w') ∨ (s.1 ≠ 0 ∧ e = .panicked (brokenC s.1 s.2))) ∧ Below B w w'
theorem AskP.no {B : Nat} {s : Nat × Nat} {good : World → Prop} {w w' : World} {r k : Nat} (hs : s = (r, k)) (hr : r ≠ 0) (hb : Below B w w') : AskP B s good w (.panicked (brokenC r k)) w' := ⟨.inr (by rw [hs]; exact ⟨hr, rfl⟩), hb⟩
theorem AskP.yes {B : Nat} {s : Nat × Nat} {good : World → Prop} {w w' : World} (hs : s = (0, 0)) (hg : good w') (hb : Below B w w') : AskP B s good w (.returned (.tuple #[])) w' := ⟨.inl ⟨hs, rfl, hg⟩, hb⟩
theorem must_sticky {is : Bool} {r k : Nat} {s : Nat × Nat} (h : s.1 ≠ 0) : mustP is r k s = s := if_neg (by simp [h])
theorem must_first {r k : Nat} : mustP false r k (0, 0) = (r, k) := if_pos ⟨rfl, rfl⟩
theorem upto_sticky {f : Nat → Nat × Nat → Nat × Nat} (hf : ∀ i s, s.1 ≠ 0 → f i s = s) {s : Nat × Nat} (h : s.1 ≠ 0) : ∀ n, upto n f s = s
 | 0 => rfl
 | n + 1 => by rw [upto_succ, upto_sticky hf h n, hf n s h]
theorem upto_past {f : Nat → Nat × Nat → Nat × Nat} (hf : ∀ i s, s.1 ≠ 0 → f i s = s) {s : Nat × Nat} {n : Nat} (h : (upto n f s).1 ≠ 0) : ∀ m, n ≤ m → upto m f s = upto n f s := fun m hm => by
  induction m with
  | zero => obtain rfl : n = 0 := by omega
            rfl
  | succ m ih =>
    rcases Nat.lt_or_ge m n with h1 | h1
    · obtain rfl : n = m + 1 := by omega
      rfl
    · have := ih h1
      rw [upto_succ, this, hf m _ h]
theorem upto_stop {f : Nat → Nat × Nat → Nat × Nat} (hf : ∀ i s, s.1 ≠ 0 → f i s = s) {s : Nat × Nat} {n m r k : Nat} (h0 : upto n f s = (0, 0)) (h1 : f n (0, 0) = (r, k)) (hr : r ≠ 0) (hm : n < m) : upto m f s = (r, k) := by
 have e : upto (n + 1) f s = (r, k) := by rw [upto_succ, h0, h1]
 rw [upto_past hf (n := n + 1) (by rw [e]; exact hr) m hm, e]
theorem infoBd : (Tryz.prog.info? 26).map (·.size) = some 7 := by kernel_rfl
end Go.Proofs.YtkaipknkjocfiaaGreat
