/- The walk of MachFlashes. -/
import Derived.Test.YtbemphfijkcbhaaFlash9
import Derived.Test.YtbemphfijkcbhaaStr
import Derived.Test.YtbemphfijkcbhaaAwake9
namespace Go.Proofs.Ytbemphfijkcbhaa
open Go.RowKit

set_option maxRecDepth 100000 in
set_option maxHeartbeats 2000000 in
theorem machFlashes_walk (A : Option Addr) (c : Nat) (b : List UInt8) (off n : Nat) (w : World) (hc : b.length ≤ c) (hl : Lies w w.heap.size 1 A b.length (u8s b)) (ho : off < 4294967296) (hn : n < 4294967296) :
    Calls Try.prog 7 #[.slice A b.length c, .int .u32 (off : Int), .int .u32 (n : Int)] w fun e w' => e = .returned (.bool true) ∧ Below w.heap.size w w' := by
  by_cases h3 : 3000 < b.length
  · have e3 : (3000 : Int) < b.length := by omega
    clear hl hc ho hn
    go_enter Try.func7, Try.ntmps7
    go_wp2_with (go_at_call 10; refine (awake_any _).mono ?_; rintro e V1 ⟨rfl, hd⟩; have HD := Lib.hid hd; clear hd)
    go_ret
    exact ⟨rfl, HD.out⟩
  · have e3 : ¬ (3000 : Int) < b.length := by omega
    obtain ⟨L, hL⟩ : ∃ L, L = getL b off n := ⟨_, rfl⟩
    obtain ⟨E, hE⟩ : ∃ E, E = getE b off n := ⟨_, rfl⟩
    have HB := Lib.hid (fun W (h : Below w.heap.size w W) => burn_any A c b W ((hl.below h).wide h.size) (by omega))
    have HG := Lib.hid (fun W g (h : FlashAt W g b) => get_any g b off n W ho hn (by omega) h)
    have HR := Lib.hid (fun W (h : Below w.heap.size w W) => rget_any A c b off n W ho hn (by omega) hc ((hl.below h).wide h.size))
    rw [← hL, ← hE] at HG HR
    clear hl hc ho hn hL hE h3
    go_enter Try.func7, Try.ntmps7
    go_wp2_with (first
      | (go_at_call 10; refine (awake_any _).mono ?_; rintro e w1 ⟨rfl, hd⟩; have H1 := Lib.hid hd; clear hd)
      | (go_at_call 26; refine (HB.out _ H1.out).mono ?_; rintro e w2 ⟨g, rfl, hf, hg, hd⟩; have H2 := Lib.hid (And.intro hf (H1.out.trans (hd.mono H1.out.size))); clear hf hg hd)
      | (go_at_call 27; refine (len_any g b _ H2.out.1).mono ?_; rintro e w3 ⟨rfl, hd⟩; have H3 := Lib.hid (And.intro (H2.out.1.below hd) (H2.out.2.trans (hd.mono H2.out.2.size))); clear hd)
      | (go_at_call 28; refine (HG.out _ g H3.out.1).mono ?_; rintro e w4 ⟨E1, c1, rfl, hl1, hd⟩; have H4 := Lib.hid (And.intro hl1 (H3.out.2.trans (hd.mono H3.out.2.size))); clear hl1 hd)
      | (go_at_call 29; refine (HR.out _ H4.out.2).mono ?_; rintro e w5 ⟨E2, c2, rfl, hl2, hd⟩; have H5 := Lib.hid (H4.out.2.trans (hd.mono H4.out.2.size)); have hs1 := conv_str w5 _ E1 L.length c1 L ((H4.out.1.below hd).wide hd.size); have hs2 := conv_str w5 _ E2 L.length c2 L hl2; clear hl2 hd))
    go_ret
    exact ⟨rfl, H5.out⟩
end Go.Proofs.Ytbemphfijkcbhaa
