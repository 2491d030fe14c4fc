/- The walk of SpanFirst. -/
import Derived.Test.YthedpjlafapfeaaFirstB
namespace Go.Proofs.Ythedpjlafapfeaa
open Go.RowKit

set_option maxHeartbeats 2000000 in
theorem lawfirst_any (A : Option Addr) (cap : Nat) (l : List Sp) (w : World) (hcap : l.length ≤ cap ∧ cap ≤ maxLen) (hf : ∀ x ∈ l, fit x) (hR : Row w w.heap.size A l) :
    Calls Try.prog 4 #[.slice A l.length cap] w fun e w' => e = .returned (.bool true) ∧ Below w.heap.size w w' := by
  by_cases hlen : l.length ≤ 40
  · have HF := Lib.hid (show ∀ w', Below w.heap.size w w' → _ from fun w' hb => first_any A cap l (by omega) hcap hf w' ((hR.below hb).wide hb.size))
    have HG := Lib.hid (show ∀ w', Below w.heap.size w w' → _ from fun w' hb => rfirst_any A cap l (by omega) hf w' ((hR.below hb).wide hb.size))
    have hlen' : ¬ (40 < (l.length : Int)) := by omega
    clear hcap hf hR hlen
    go_enter Try.func4, Try.ntmps4
    go_wp2_with (first
      | (go_at_call 9; refine (awake_any _).mono ?_; rintro e w1 ⟨rfl, hd⟩; have H1 := Lib.hid hd; clear hd)
      | (go_at_call 22; refine (HF.out w1 H1.out).mono ?_; rintro e w2 ⟨i, j, b, rfl, hi, hd⟩; have H2 := Lib.hid (H1.out.trans (hd.mono H1.out.size)); have HI := Lib.hid hi; clear hd hi)
      | (go_at_call 23; refine (HG.out w2 H2.out).mono ?_; rintro e w3 ⟨i', j', b', rfl, hi, hd⟩; obtain ⟨rfl, rfl, rfl⟩ := first_unique HI.out hi; have H3 := Lib.hid (H2.out.trans (hd.mono H2.out.size)); clear hd hi))
    go_ret
    exact ⟨rfl, H3.out⟩
  · have hlen' : 40 < (l.length : Int) := by omega
    clear hcap hf hR hlen
    go_enter Try.func4, Try.ntmps4
    go_wp2_with (go_at_call 9; refine (awake_any _).mono ?_; rintro e w1 ⟨rfl, hd⟩; have H1 := Lib.hid hd; clear hd)
    go_ret
    exact ⟨rfl, H1.out⟩
end Go.Proofs.Ythedpjlafapfeaa
