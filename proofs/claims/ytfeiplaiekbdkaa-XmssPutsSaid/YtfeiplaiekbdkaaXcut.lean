/- The cutter: a closure that goes on through bytes. -/
import Derived.Test.YtfeiplaiekbdkaaXkind
import Derived.Test.YtfeiplaiekbdkaaXref
import Derived.Test.YtfeiplaiekbdkaaVs
namespace Go.Proofs.Ytfeiplaiekbdkaa
open Go.RowKit
attribute [local go_sem ↓ high] zeroV26

def cutV (g : Nat) : Value := .func (.func 32) #[] #[.pointer (some ⟨g, 0, none⟩)]
theorem Blk.set1 {w : World} {g : Nat} {t : TypeId} {v : Value} (h : Blk w g t #[v]) (u : Value) : Blk (w.setCell ⟨g, 0, none⟩ u) g t #[u] := by
  unfold Blk at h ⊢
  simp [World.setCell, Array.getElem?_modify, h]
/-- Box g holds the bytes that are left, l; they lie below block B. -/
structure CutAt (w : World) (B g : Nat) (l : List UInt8) : Prop where
  box : ∃ A c, Blk w g 27 #[.slice A l.length c] ∧ Lies w B 1 A l.length (u8s l) ∧ l.length ≤ c
  le : B ≤ g
theorem lies_left {w : World} {B : Nat} {a : Addr} {l1 l2 : List UInt8} (h : Lies w B 1 (some a) (l1 ++ l2).length (u8s (l1 ++ l2))) (hn : (l1 ++ l2) ≠ []) : Lies w B 1 (some a) l1.length (u8s l1) ∧ Lies w B 1 (some (a.add l1.length)) l2.length (u8s l2) := by
  obtain ⟨a', e, hb, hc⟩ := h.2 (fun h0 => hn (List.eq_nil_of_length_eq_zero h0))
  injection e with e
  subst e
  have e : u8s (l1 ++ l2) = u8s l1 ++ u8s l2 := by simp [u8s]
  have hc' : ∀ j x, (u8s (l1 ++ l2))[j]? = some x → w.cell? (a.add j) = some x := fun j x hx => by
    obtain ⟨hj, rfl⟩ := List.getElem?_eq_some_iff.1 hx
    exact hc j hj
  refine ⟨⟨by simp [u8s_length], fun _ => ⟨a, rfl, hb, fun j hj => ?_⟩⟩, ⟨by simp [u8s_length], fun _ => ⟨_, rfl, by rw [addr_add_block]; exact hb, fun j hj => ?_⟩⟩⟩
  · exact hc' j _ (by rw [e, List.getElem?_append_left hj]; exact List.getElem?_eq_getElem hj)
  · rw [addr_add_add]
    exact hc' _ _ (by rw [e, List.getElem?_append_right (by rw [u8s_length]; omega), u8s_length, Nat.add_sub_cancel_left]; exact List.getElem?_eq_getElem hj)
set_option maxHeartbeats 1000000 in
set_option maxRecDepth 100000 in
theorem next_any (l1 l2 : List UInt8) (k : Nat) (hk : k = l1.length) (hk0 : 0 < k) (B g : Nat) (w : World) (h : CutAt w B g (l1 ++ l2)) :
    Calls Try.prog 32 #[.int .i64 (k : Int), .pointer (some ⟨g, 0, none⟩)] w fun e w' => ∃ A c, e = .returned (.slice A k c) ∧ Lies w' B 1 A l1.length (u8s l1) ∧ k ≤ c ∧ CutAt w' B g l2 ∧ Save g w w' := by
  obtain ⟨⟨A, c, hb, hl, hc⟩, hle⟩ := h
  have hne : l1 ++ l2 ≠ [] := fun e => by have h2 := congrArg List.length e; rw [List.length_append, List.length_nil] at h2; omega
  obtain ⟨a, rfl, -, -⟩ := hl.2 (fun h0 => hne (List.eq_nil_of_length_eq_zero h0))
  obtain ⟨n, hn⟩ : ∃ n, n = (l1 ++ l2).length := ⟨_, rfl⟩
  have hn2 : n = k + l2.length := by rw [hn, List.length_append, hk]
  rw [← hn] at hb hc
  have hcell := hb.cellAt 0 (v := .slice (some a) n c) rfl
  have hfz : w.frozen? ⟨g, 0, none⟩ = false := by unfold Blk at hb; simp [World.frozen?, hb]
  have HL := Lib.hid (And.intro (lies_left hl hne) (And.intro hb hle))
  have hkn : k ≤ n := by omega
  clear hl hb hn
  go_enter Try.func32, Try.ntmps32
  go_wp2
  case inl =>
    go_ret
    refine ⟨_, _, rfl, ?_, Nat.le_refl _, ⟨⟨_, _, HL.out.2.1.set1 _, ?_, by omega⟩, HL.out.2.2⟩, (Save.refl _ _).setCell 0 _⟩
    · exact HL.out.1.1.set HL.out.2.2 _
    · have h0 : l2.length = 0 := by omega
      have : l2 = [] := List.eq_nil_of_length_eq_zero h0
      rw [this]; exact Lies.nil _ _ _ _
  case inr =>
    go_ret
    exact ⟨_, _, rfl, HL.out.1.1.set HL.out.2.2 _, by omega, ⟨⟨_, _, HL.out.2.1.set1 _, HL.out.1.2.set HL.out.2.2 _, by omega⟩, HL.out.2.2⟩, (Save.refl _ _).setCell 0 _⟩
set_option maxRecDepth 100000 in
theorem cutter_any (A : Option Addr) (c : Nat) (l : List UInt8) (w : World) (hc : l.length ≤ c) (h : Lies w w.heap.size 1 A l.length (u8s l)) :
    Calls Try.prog 20 #[.slice A l.length c] w fun e w' => e = .returned (cutV w.heap.size) ∧ CutAt w' w.heap.size w.heap.size l ∧ Below w.heap.size w w' ∧ w'.heap.size = w.heap.size + 1 := by
  have HL := Lib.hid (And.intro hc h)
  clear hc h
  go_enter Try.func20, Try.ntmps20
  go_wp2
  go_ret
  exact ⟨rfl, ⟨⟨_, _, Blk.new _ _ _ rfl, HL.out.2.alloc (Nat.le_refl _) _, HL.out.1⟩, Nat.le_refl _⟩, (Below.refl _ _).alloc (Nat.le_refl _) _, by simp⟩
set_option maxHeartbeats 1000000 in
set_option maxRecDepth 100000 in
theorem number_cut (n : Nat) (hn : n < 4294967296) (l2 : List UInt8) (B g : Nat) (w : World) (h : CutAt w B g (numBytes 0 4 n ++ l2)) :
    Calls Try.prog 21 #[cutV g] w fun e w' => e = .returned (.int .u32 (n : Int)) ∧ CutAt w' B g l2 ∧ Save g w w' := by
  have HN := Lib.hid (next_any (numBytes 0 4 n) l2 4 (numBytes_len n).symm (by decide) B g w h)
  have hacc : numOf (numBytes 0 4 n) 0 4 false = n := by
    unfold numOf
    rw [if_pos (by rw [numBytes_len]; decide)]
    have := acc_num n hn []
    rw [List.append_nil] at this
    exact this
  have HA := Lib.hid hacc
  clear hacc h
  unfold cutV
  go_enter Try.func21, Try.ntmps21
  go_wp2_with (first
    | (go_at_call 32; refine HN.out.mono ?_; rintro e w1 ⟨A, c, rfl, hl, hc, hct, hs⟩; have H1 := Lib.hid (And.intro hl (And.intro hct hs)); clear hl hct hs)
    | (go_at_call 33
       have hb := be32_any (numBytes 0 4 n) A c B 0 w1 (by rw [numBytes_len]; decide) H1.out.1
       rw [numBytes_len, HA.out] at hb
       refine hb.mono ?_; clear hb; rintro e w2 ⟨rfl, hw2⟩; have H2 := Lib.hid hw2; clear hw2))
  go_ret
  obtain ⟨m, hm⟩ := H2.out
  rw [hm]
  exact ⟨rfl, ⟨H1.out.2.1.box, H1.out.2.1.le⟩, H1.out.2.2.drewN _⟩
end Go.Proofs.Ytfeiplaiekbdkaa
