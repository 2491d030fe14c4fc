/- The walk of XmssVerifies. -/
import Derived.Test.YtfeiplaiekbdkaaGreatDoorXrver
import Derived.Test.YtfeiplaiekbdkaaGreatDoorWx
namespace Go.Proofs.YtfeiplaiekbdkaaGreatDoor
open Go.RowKit
attribute [local go_sem ↓ high] zeroV26 zeroKey

/-- Both Verify answer alike. -/
theorem ver_both (key sig msg : List UInt8) (hk : key.length ≤ 3000) (hs : sig.length ≤ 3000) : ∃ k, VerAns 6 key sig msg k ∧ VerAns 7 key sig msg k := by
  obtain ⟨o, r, s, k, ho, hk1, hk2⟩ := keyOf_both key hk
  obtain ⟨idx, rr, ots, auth, k2, hidx, _, _, hs1, hs2⟩ := sigOf_both sig hs o ho
  exact ⟨_, ver_any key sig msg o r s k hk1 idx rr ots auth k2 hidx hs1, rver_any key sig msg o r s k hk2 idx rr ots auth k2 hidx hs2⟩
set_option maxHeartbeats 2000000 in
set_option maxRecDepth 100000 in
theorem xmssVerifies_walk (A : Option Addr) (c : Nat) (key : List UInt8) (M : Option Addr) (mc : Nat) (msg : List UInt8) (S : Option Addr) (sc : Nat) (sig : List UInt8) (w : World) (hc : key.length ≤ c) (hA : Lies w w.heap.size 1 A key.length (u8s key)) (hmc : msg.length ≤ mc) (hM : Lies w w.heap.size 1 M msg.length (u8s msg)) (hsc : sig.length ≤ sc) (hS : Lies w w.heap.size 1 S sig.length (u8s sig)) (hT : Tabs w) :
    Calls Tryz.prog 3 #[.slice A key.length c, .slice M msg.length mc, .slice S sig.length sc] w fun e w' => e = .returned (.bool true) ∧ Below w.heap.size w w' := by
  have HL := Lib.hid (And.intro hA (And.intro hM (And.intro hS hT)))
  have HC := Lib.hid (And.intro hc (And.intro hsc hmc))
  clear hA hM hS hT hc hsc hmc
  have AW : Hid (∀ W, Calls Tryz.prog 5 #[] W fun e w' => e = .returned (.bool true) ∧ Below W.heap.size W w') := Lib.hid awake8_any
  by_cases g1 : key.length ≤ 200
  · have t1 : ¬ (200 : Int) < (key.length : Int) := by omega
    by_cases g2 : msg.length ≤ 500
    · have t2 : ¬ (500 : Int) < (msg.length : Int) := by omega
      by_cases g3 : sig.length ≤ 3000
      · have t3 : ¬ (3000 : Int) < (sig.length : Int) := by omega
        obtain ⟨k, hv1, hv2⟩ := ver_both key sig msg (by omega) g3
        have HV := Lib.hid (And.intro hv1 hv2)
        have HG := Lib.hid (show msg.length ≤ 100000000 by omega)
        clear hv1 hv2 g1 g2 g3
        go_enter Tryz.func3, Tryz.ntmps3
        go_wp2_with (first
          | (go_at_call 5; refine (AW.out _).mono ?_; rintro e w0 ⟨rfl, hd⟩; have HD := Lib.hid hd; clear hd)
          | (go_at_call 6; refine (HV.out.1 A M S c mc sc _ HC.out.1 HC.out.2.1 HC.out.2.2 HG.out ((HL.out.1.below HD.out).wide HD.out.size) ((HL.out.2.1.below HD.out).wide HD.out.size) ((HL.out.2.2.1.below HD.out).wide HD.out.size) (tabs_below HL.out.2.2.2 HD.out)).mono ?_; rintro e w1 ⟨rfl, hd⟩; have HD := Lib.hid (HD.out.trans (hd.mono HD.out.size)); clear hd)
          | (go_at_call 7; refine (HV.out.2 A M S c mc sc _ HC.out.1 HC.out.2.1 HC.out.2.2 HG.out ((HL.out.1.below HD.out).wide HD.out.size) ((HL.out.2.1.below HD.out).wide HD.out.size) ((HL.out.2.2.1.below HD.out).wide HD.out.size) (tabs_below HL.out.2.2.2 HD.out)).mono ?_; rintro e w2 ⟨rfl, hd⟩; have HD := Lib.hid (HD.out.trans (hd.mono HD.out.size)); clear hd))
        go_ret
        exact ⟨rfl, HD.out⟩
      · have t3 : (3000 : Int) < (sig.length : Int) := by omega
        go_enter Tryz.func3, Tryz.ntmps3
        go_wp2_with (go_at_call 5; refine (AW.out _).mono ?_; rintro e w0 ⟨rfl, hd⟩; have HD := Lib.hid hd; clear hd)
        go_ret
        exact ⟨rfl, HD.out⟩
    · have t2 : (500 : Int) < (msg.length : Int) := by omega
      go_enter Tryz.func3, Tryz.ntmps3
      go_wp2_with (go_at_call 5; refine (AW.out _).mono ?_; rintro e w0 ⟨rfl, hd⟩; have HD := Lib.hid hd; clear hd)
      go_ret
      exact ⟨rfl, HD.out⟩
  · have t1 : (200 : Int) < (key.length : Int) := by omega
    go_enter Tryz.func3, Tryz.ntmps3
    go_wp2_with (go_at_call 5; refine (AW.out _).mono ?_; rintro e w0 ⟨rfl, hd⟩; have HD := Lib.hid hd; clear hd)
    go_ret
    exact ⟨rfl, HD.out⟩
end Go.Proofs.YtfeiplaiekbdkaaGreatDoor
