/- Headers and images of guests, plainly: as bytes, read, split, packed. -/
import Derived.Test.YtgoblolbkchggaaDoorMc
namespace Go.Proofs.YtgoblolbkchggaaDoor

structure Hd where
  ver : Int
  size : Int
  name : By
  dig : By
structure HdB (h : Hd) : Prop where
  ver : 0 ≤ h.ver ∧ h.ver < 4294967296
  size : 0 ≤ h.size ∧ h.size < 4294967296
  dig : h.dig.length = 32
/-- The bytes ahead of the name. -/
def layF (m v s z : Nat) : By := be 4 m ++ be 4 v ++ be 4 s ++ be 4 z
def layH (h : Hd) : By := layF 1112100167 h.ver.toNat h.size.toNat 0 ++ nameE h.name ++ h.dig
def cutB (b : By) (p m : Nat) : By := (b.drop p).take m
/-- What stands where a header's fields stand. -/
def readH (b : By) : Hd := ⟨(val (cutB b 4 4) : Nat), (val (cutB b 8 4) : Nat), nameD (cutB b 16 16), b.drop 32⟩
def isH (b : By) : Bool := decide (b.length = 64) && (nameOk (readH b).name && decide (layH (readH b) = b))
def ofH (b : By) : Option Hd := if isH b = true then some (readH b) else none

theorem layF_len (m v s z : Nat) : (layF m v s z).length = 16 := by simp [layF, be_len]
theorem nameE_len {s : By} (h : s.length ≤ 16) : (nameE s).length = 16 := by simp [nameE]; omega
theorem nameOk_len {s : By} (h : nameOk s = true) : s.length ≤ 16 := by
  unfold nameOk at h
  simp only [Bool.and_eq_true, decide_eq_true_eq] at h
  exact h.2
theorem layH_len {h : Hd} (hb : HdB h) (hn : nameOk h.name = true) : (layH h).length = 64 := by
  have := nameE_len (nameOk_len hn)
  simp [layH, layF_len, this, hb.dig]
theorem cutB_len (b : By) (p m : Nat) (h : p + m ≤ b.length) : (cutB b p m).length = m := by simp [cutB]; omega
theorem cut_mid (l m r : By) (p k : Nat) (hp : l.length = p) (hk : m.length = k) : cutB (l ++ m ++ r) p k = m := by
  unfold cutB
  rw [List.append_assoc, List.drop_left' hp, List.take_left' hk]
theorem val_be4 (n : Nat) (h : n < 4294967296) : val (be 4 n) = n := val_be 4 n (by omega)
theorem be_val4 (l : By) (h : l.length = 4) : be 4 (val l) = l := by
  have := be_val l
  rw [h] at this
  exact this
theorem four (b : By) : b = cutB b 0 4 ++ cutB b 4 4 ++ cutB b 8 4 ++ cutB b 12 4 ++ cutB b 16 16 ++ b.drop 32 := by
  unfold cutB
  have e : ∀ (p m : Nat), b.drop p = (b.drop p).take m ++ b.drop (p + m) := fun p m => by rw [← List.drop_drop, List.take_append_drop]
  conv => lhs; rw [← List.drop_zero (l := b), e 0 4, e 4 4, e 8 4, e 12 4, e 16 16]
  simp [List.append_assoc]
theorem bound4 (b : By) (p : Nat) : val (cutB b p 4) < 4294967296 := by
  have h := val_lt (cutB b p 4)
  have h2 : (cutB b p 4).length ≤ 4 := by simp [cutB]; omega
  have := Nat.lt_of_lt_of_le h (Nat.pow_le_pow_right (by decide) h2)
  omega
theorem readH_b {b : By} (h : b.length = 64) : HdB (readH b) := by
  have h1 := bound4 b 4
  have h2 := bound4 b 8
  refine ⟨⟨by simp [readH], ?_⟩, ⟨by simp [readH], ?_⟩, by simp [readH, h]⟩
  · show ((val (cutB b 4 4) : Nat) : Int) < 4294967296; omega
  · show ((val (cutB b 8 4) : Nat) : Int) < 4294967296; omega
theorem lay_cuts {h : Hd} (hn : nameOk h.name = true) : cutB (layH h) 0 4 = be 4 1112100167 ∧ cutB (layH h) 4 4 = be 4 h.ver.toNat ∧ cutB (layH h) 8 4 = be 4 h.size.toNat ∧ cutB (layH h) 12 4 = be 4 0 ∧ cutB (layH h) 16 16 = nameE h.name ∧ (layH h).drop 32 = h.dig := by
  have hl := nameE_len (nameOk_len hn)
  unfold layH layF
  refine ⟨?_, ?_, ?_, ?_, ?_, ?_⟩
  · have := cut_mid [] (be 4 1112100167) (be 4 h.ver.toNat ++ be 4 h.size.toNat ++ be 4 0 ++ nameE h.name ++ h.dig) 0 4 rfl (be_len _ _)
    simpa [List.append_assoc] using this
  · have := cut_mid (be 4 1112100167) (be 4 h.ver.toNat) (be 4 h.size.toNat ++ be 4 0 ++ nameE h.name ++ h.dig) 4 4 (be_len _ _) (be_len _ _)
    simpa [List.append_assoc] using this
  · have := cut_mid (be 4 1112100167 ++ be 4 h.ver.toNat) (be 4 h.size.toNat) (be 4 0 ++ nameE h.name ++ h.dig) 8 4 (by simp [be_len]) (be_len _ _)
    simpa [List.append_assoc] using this
  · have := cut_mid (be 4 1112100167 ++ be 4 h.ver.toNat ++ be 4 h.size.toNat) (be 4 0) (nameE h.name ++ h.dig) 12 4 (by simp [be_len]) (be_len _ _)
    simpa [List.append_assoc] using this
  · have := cut_mid (be 4 1112100167 ++ be 4 h.ver.toNat ++ be 4 h.size.toNat ++ be 4 0) (nameE h.name) h.dig 16 16 (by simp [be_len]) hl
    simpa [List.append_assoc] using this
  · exact List.drop_left' (by simp [be_len, hl])
theorem read_lay {h : Hd} (hb : HdB h) (hn : nameOk h.name = true) : readH (layH h) = h := by
  obtain ⟨-, e1, e2, -, e4, e5⟩ := lay_cuts hn
  have hz : nameD (nameE h.name) = h.name := nameD_of _ _ (nameOk_ne hn).1
  obtain ⟨v1, v2⟩ := hb.ver
  obtain ⟨s1, s2⟩ := hb.size
  unfold readH
  rw [e1, e2, e4, e5, hz, val_be4 _ (by omega), val_be4 _ (by omega), Int.toNat_of_nonneg v1, Int.toNat_of_nonneg s1]
theorem isH_lay {h : Hd} (hb : HdB h) (hn : nameOk h.name = true) : isH (layH h) = true := by
  unfold isH
  rw [read_lay hb hn, hn]
  simp [layH_len hb hn]
theorem of_lay {h : Hd} (hb : HdB h) (hn : nameOk h.name = true) : ofH (layH h) = some h := by
  unfold ofH
  rw [if_pos (isH_lay hb hn), read_lay hb hn]
theorem isH_len {b : By} (h : isH b = true) : b.length = 64 ∧ nameOk (readH b).name = true ∧ layH (readH b) = b := by
  unfold isH at h
  simp only [Bool.and_eq_true, decide_eq_true_eq] at h
  exact h
theorem of_some {b : By} {h : Hd} (e : ofH b = some h) : b.length = 64 ∧ HdB h ∧ nameOk h.name = true ∧ layH h = b := by
  unfold ofH at e
  by_cases hi : isH b = true
  · rw [if_pos hi] at e
    cases e
    obtain ⟨h1, h2, h3⟩ := isH_len hi
    exact ⟨h1, readH_b h1, h2, h3⟩
  · rw [if_neg hi] at e; cases e
theorem of_is {b : By} {h : Hd} (hb : HdB h) (hn : nameOk h.name = true) (e : layH h = b) : ofH b = some h := by rw [← e]; exact of_lay hb hn
/-- The bytes of a header, field by field. -/
theorem isH_iff {b : By} (h : b.length = 64) : isH b = true ↔ val (cutB b 0 4) = 1112100167 ∧ val (cutB b 12 4) = 0 ∧ nameOk (nameD (cutB b 16 16)) = true ∧ ((cutB b 16 16).drop (nameD (cutB b 16 16)).length).all (fun c => c == 0) = true := by
  constructor
  · intro hi
    obtain ⟨-, h2, h3⟩ := isH_len hi
    obtain ⟨e0, -, -, e3, e4, -⟩ := lay_cuts h2
    rw [h3] at e0 e3 e4
    refine ⟨by rw [e0]; exact val_be4 _ (by decide), by rw [e3]; exact val_be4 _ (by decide), h2, ?_⟩
    rw [e4]
    have hz : nameD (nameE (readH b).name) = (readH b).name := nameD_of _ _ (nameOk_ne h2).1
    rw [hz]
    unfold nameE
    rw [List.drop_left' rfl]
    simp
  · rintro ⟨h1, h2, h3, h4⟩
    have hl : (cutB b 16 16).length = 16 := cutB_len _ _ _ (by omega)
    have e0 : be 4 1112100167 = cutB b 0 4 := by rw [← h1]; exact be_val4 _ (cutB_len _ _ _ (by omega))
    have e3 : be 4 0 = cutB b 12 4 := by rw [← h2]; exact be_val4 _ (cutB_len _ _ _ (by omega))
    have e1 : be 4 (val (cutB b 4 4)) = cutB b 4 4 := be_val4 _ (cutB_len _ _ _ (by omega))
    have e2 : be 4 (val (cutB b 8 4)) = cutB b 8 4 := be_val4 _ (cutB_len _ _ _ (by omega))
    have e4 : nameE (nameD (cutB b 16 16)) = cutB b 16 16 := by
      have hz := zeros_of _ h4
      have hp : nameD (cutB b 16 16) ++ (cutB b 16 16).drop (nameD (cutB b 16 16)).length = cutB b 16 16 := takeWhile_pre _ _
      unfold nameE
      rw [List.length_drop, hl] at hz
      rw [← hz]
      exact hp
    unfold isH
    have : layH (readH b) = b := by
      show layF 1112100167 ((val (cutB b 4 4) : Nat) : Int).toNat ((val (cutB b 8 4) : Nat) : Int).toNat 0 ++ nameE (nameD (cutB b 16 16)) ++ b.drop 32 = b
      rw [Int.toNat_natCast, Int.toNat_natCast, e4]
      unfold layF
      rw [e0, e1, e2, e3]
      exact (four b).symm
    rw [this, show nameOk (readH b).name = true from h3]
    simp [h]
/-! ### Images -/
def sigN (oid : Nat) : Nat := 36 + 32 * (67 + hgtO oid)
def splitP (b : By) (oid : Nat) : Except Nat (Hd × By × By × By) :=
  if isO oid = false then .error 80 else if b.length < 64 + sigN oid then .error 150 else match ofH (b.take 64) with
  | none => .error 150
  | some h => if ((b.length - 64 - sigN oid : Nat) : Int) = h.size then .ok (h, b.take 64, cutB b 64 (sigN oid), b.drop (64 + sigN oid)) else .error 150
def packP (h : Hd) (sig pay : By) : Option By := if nameOk h.name = true ∧ h.size = (pay.length : Int) then some (layH h ++ sig ++ pay) else none
theorem split_pack {h : Hd} {sig pay b : By} {oid : Nat} (hb : HdB h) (hp : packP h sig pay = some b) (ho : isO oid = true) (hs : sig.length = sigN oid) : splitP b oid = .ok (h, layH h, sig, pay) := by
  unfold packP at hp
  by_cases hc : nameOk h.name = true ∧ h.size = (pay.length : Int)
  · rw [if_pos hc] at hp
    cases hp
    have hl := layH_len hb hc.1
    have e1 : (layH h ++ sig ++ pay).take 64 = layH h := by rw [List.append_assoc]; exact List.take_left' hl
    have e2 : cutB (layH h ++ sig ++ pay) 64 (sigN oid) = sig := cut_mid _ _ _ _ _ hl hs
    have e3 : (layH h ++ sig ++ pay).drop (64 + sigN oid) = pay := List.drop_left' (by simp [hl, hs])
    unfold splitP
    rw [ho, if_neg (by decide), if_neg (by simp [hl, hs]), e1, of_lay hb hc.1]
    show (if _ then _ else _) = _
    rw [e2, e3, if_pos (by rw [hc.2]; simp only [List.length_append, hl, hs]; omega)]
  · rw [if_neg hc] at hp; cases hp
theorem split_off {h : Hd} {sig pay b : By} {oid : Nat} (hb : HdB h) (hp : packP h sig pay = some b) (hs : isO oid = false ∨ sig.length ≠ sigN oid) : ∃ e, splitP b oid = .error e := by
  unfold packP at hp
  by_cases hc : nameOk h.name = true ∧ h.size = (pay.length : Int)
  · rw [if_pos hc] at hp
    cases hp
    have hl := layH_len hb hc.1
    have e1 : (layH h ++ sig ++ pay).take 64 = layH h := by rw [List.append_assoc]; exact List.take_left' hl
    unfold splitP
    by_cases ho : isO oid = false
    · exact ⟨_, if_pos ho⟩
    rw [if_neg ho]
    by_cases h1 : (layH h ++ sig ++ pay).length < 64 + sigN oid
    · exact ⟨_, if_pos h1⟩
    rw [if_neg h1, e1, of_lay hb hc.1]
    refine ⟨150, if_neg ?_⟩
    rcases hs with hs | hs
    · exact absurd hs ho
    · rw [hc.2]
      simp only [List.length_append, hl] at h1 ⊢
      omega
  · rw [if_neg hc] at hp; cases hp
end Go.Proofs.YtgoblolbkchggaaDoor
