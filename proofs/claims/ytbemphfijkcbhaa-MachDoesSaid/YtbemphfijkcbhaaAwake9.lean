/- portreevelaw09.awake: chapter 9's example. -/
import Derived.Test.YtbemphfijkcbhaaNew9
namespace Go.Proofs.Ytbemphfijkcbhaa
open Go.RowKit

theorem ex_new (w : World) : Calls Try.prog 14 #[.agg #[.int .u64 1073741824, .int .u64 8192], .slice none 0 0] w fun e w' => ∃ p b G D, e = .returned (.tuple #[.pointer (some ⟨p, 0, none⟩), .int .i64 0]) ∧ MC w' G p b (1073741824, 8192) 0 D zM ∧ (∀ i, G i → w.heap.size ≤ i) ∧ w.heap.size ≤ p ∧ Below w.heap.size w w' := by
  have h : Calls Try.prog 14 #[.agg #[.int .u64 1073741824, .int .u64 8192], .slice none 0 0] w (NewPost w (1073741824, 8192) []) := newmem_any 1073741824 8192 ⟨by decide, by decide⟩ none 0 [] (Nat.zero_le _) w (CRow.nil _ _ _)
  refine h.mono ?_
  rintro e w' ⟨hb, ⟨h1, _⟩ | ⟨_, h2, _⟩ | ⟨_, _, p, b, G, D, rfl, h3, h4, h5⟩⟩
  · exact absurd h1 (by decide)
  · exact absurd rfl h2
  · exact ⟨p, b, G, D, rfl, h3, h4, h5, hb⟩
theorem ex_byte : wrW (1073741824, 8192) zM 1073741832 1 1073741832 = 1 := by decide +kernel
set_option maxRecDepth 100000 in
set_option maxHeartbeats 2000000 in
theorem awake_any (w : World) : Calls Try.prog 10 #[] w fun e w' => e = .returned (.bool true) ∧ Below w.heap.size w w' := by
  have HN := Lib.hid (ex_new w)
  have HP : Hid (∀ w1 G p b D, MC w1 G p b (1073741824, 8192) 0 D zM → Calls Try.prog 23 #[.pointer (some ⟨p, 0, none⟩), .int .u64 1073741832, .int .u64 1] w1 fun e w' => e = .returned (.int .i64 0) ∧
      ∃ G' D', MC w' G' p b (1073741824, 8192) (0 + 300) D' (wrW (1073741824, 8192) zM 1073741832 1) ∧ Turn G w1 w' ∧ ∀ i, G' i → G i ∨ w1.heap.size ≤ i) := Lib.hid fun w1 G p b D h =>
    (mput_any h (by decide) 1073741832 1 (by decide) (by decide)).mono fun e w' ⟨h1, h2⟩ => ⟨h1, h2⟩
  have HR1 : Hid (∀ w1 G p b D, MC w1 G p b (1073741824, 8192) (0 + 300) D (wrW (1073741824, 8192) zM 1073741832 1) → Calls Try.prog 20 #[.pointer (some ⟨p, 0, none⟩), .int .u64 1073741832, .int .u64 2] w1 fun e w' => ∃ g, e = .returned (.tuple #[.slice (some ⟨g, 0, none⟩) 2 2, .int .i64 0]) ∧ w'.cell? ⟨g, 0, none⟩ = some (.int .u8 1) ∧ w1.heap.size ≤ g ∧ g < w'.heap.size ∧ Below w1.heap.size w1 w') := Lib.hid fun w1 G p b D h => by
    refine (mread_ok h 1073741832 2 ⟨by decide, by decide⟩ (by decide +kernel)).mono ?_
    rintro e w' ⟨g, rfl, h1, h2, h3⟩
    refine ⟨g, rfl, ?_, h1, h2.lt, h3⟩
    rw [h2.cell (by decide : 0 < 2)]
    unfold bys
    dsimp only
    rw [show 1073741832 + 0 = 1073741832 from rfl, ex_byte]
    rfl
  have HR2 : Hid (∀ w1 G p b D, MC w1 G p b (1073741824, 8192) (0 + 300) D (wrW (1073741824, 8192) zM 1073741832 1) → Calls Try.prog 20 #[.pointer (some ⟨p, 0, none⟩), .int .u64 1073750015, .int .u64 2] w1 fun e w' => e = .returned (.tuple #[.slice none 0 0, .int .i64 90]) ∧ Below w1.heap.size w1 w') := Lib.hid fun w1 G p b D h =>
    mread_no (.pointer (some ⟨p, 0, none⟩)) (1073741824, 8192) 1073750015 2 w1 h.ok.fit ⟨by decide, by decide⟩ (fun W hW => h.space W hW) (by decide +kernel)
  go_enter Try.func10, Try.ntmps10
  go_wp2_with (first
    | (go_at_call 14; refine HN.out.mono ?_; rintro e w1 ⟨p, b, G, D, rfl, h1, h2, h3, h4⟩; have H1 := Lib.hid (And.intro h1 (And.intro h2 (And.intro h3 h4))); clear h1 h2 h3 h4)
    | (go_at_call 23; refine (HP.out _ G p b D H1.out.1).mono ?_; rintro e w2 ⟨rfl, G', D', h1, h2, h3⟩; have H2 := Lib.hid (And.intro h1 (And.intro h2 h3)); clear h1 h2 h3)
    | (go_at_call 20; (with_reducible show Calls _ _ #[_, .int .u64 1073741832, _] _ _); refine (HR1.out _ G' p b D' H2.out.1).mono ?_; rintro e w3 ⟨g, rfl, hc, hg, hgl, hd⟩; have H3 := Lib.hid (And.intro hc (And.intro hg (And.intro hgl hd))); clear hc hg hgl hd)
    | (go_at_call 20; (with_reducible show Calls _ _ #[_, .int .u64 1073750015, _] _ _); refine (HR2.out _ G' p b D' (H2.out.1.under H3.out.2.2.2)).mono ?_; rintro e w4 ⟨rfl, hd⟩; have H4 := Lib.hid hd; have hc := (hd.cell H3.out.2.2.1).trans H3.out.1; clear hd))
  go_ret
  have h3 : Below w2.heap.size w2 w3 := H3.out.2.2.2
  have h4 : Below w3.heap.size w3 w4 := H4.out
  have h2 : Below w.heap.size w1 w2 := H2.out.2.1.below H1.out.2.1 H1.out.2.2.2.size
  have h12 := H1.out.2.2.2.trans h2
  have h13 := h12.trans (h3.mono h12.size)
  exact ⟨rfl, h13.trans (h4.mono h13.size)⟩
end Go.Proofs.Ytbemphfijkcbhaa
