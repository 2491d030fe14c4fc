/- The library's sort at []uint64, part by part: what each makes of a row. A row of n numbers lies at (blk, off); 'wr = putRow encU (Sort.ahead w n) blk off dk': the world now, dk: what the row holds. -/
import Derived.Test.YthedpjlafapfeaaSort
import Derived.Sort.WalkA6
import Derived.Sort.WalkB3
import Derived.Sort.LotB
namespace Go.Proofs.Ythedpjlafapfeaa
open Go.RowKit Go.Shelf Go.Lib Go.Sort Go.Proofs

/-- What a walk sees of the row: its numbers by name, readable and writable. -/
theorem row_view {blk off n : Nat} {d dk : Array Int} {w wr : World} (hH : Holds encU w blk off d) (hs : dk.size = d.size) (hw : wr = putRow encU (Sort.ahead w n) blk off dk) :
    ∃ G : Nat → Int, (∀ t, G t = dk[t]!) ∧ (∀ t, t < d.size → wr.cell? ⟨blk, off + t, none⟩ = some (.int .u64 (G t))) ∧ (∀ t, t < d.size → wr.frozen? ⟨blk, off + t, none⟩ = false) := by
  refine ⟨fun t => dk[t]!, fun _ => rfl, fun t ht => ?_, fun t ht => ?_⟩
  · rw [hw]; exact cell?_putRow _ _ _ _ d dk (holds_ahead _ _ _ _ _ _ hH) hs t (by omega)
  · rw [hw, frozen?_putRow]; exact ((holds_ahead _ _ n _ _ _ hH) t ht).2
theorem perm_swp {a b i j : Nat} {d dk : Array Int} (h : PermIn a b d dk) (hb : b ≤ d.size) (h1 : a ≤ i) (h2 : i < b) (h3 : a ≤ j) (h4 : j < b) : PermIn a b d (swp dk i j) :=
  permIn_trans d dk _ a b h (swp_permIn dk a b i j h1 h2 h3 h4 (by rw [h.1]; exact hb))

set_option maxHeartbeats 4000000 in
set_option maxRecDepth 100000 in
theorem rev_any (blk off cap a b : Nat) (d : Array Int) (w : World) (hH : Holds encU w blk off d) (hab : a < b) (hb : b ≤ d.size) (hsz : d.size < 1000000) :
    Calls Try.prog 65 #[.slice (some ⟨blk, off, none⟩) d.size cap, .int .i64 a, .int .i64 b] w fun e w' =>
      e = .returned (.tuple #[]) ∧ ∃ n d', PermIn a b d d' ∧ w' = putRow encU (Sort.ahead w n) blk off d' := by
  go_enter Try.func65, Try.ntmps65
  go_wp2
  go_loopw [6, 7] (fun vi vj wr => ∃ (i j n : Nat) (dk : Array Int), vi = .int .i64 i ∧ vj = .int .i64 j ∧ a ≤ i ∧ j < b ∧ i ≤ b ∧ Hid (PermIn a b d dk) ∧ Hid (wr = putRow encU (Sort.ahead w n) blk off dk)) (fun _ vj _ => (intOf vj).toNat)
  case atStart => exact ⟨a, b - 1, 0, d, rfl, by go_num, Nat.le_refl _, by omega, by omega, Lib.hid (permIn_refl d a b), Lib.hid (putRow_self _ _ _ _ _ hH).symm⟩
  case round =>
    obtain ⟨i, j, n, dk, rfl, rfl, hai, hjb, hib, HP, HW⟩ := hrel
    have hsk := HP.out.1
    obtain ⟨G, hG, hcw, hfw⟩ := row_view hH hsk HW.out
    have HG := Lib.hid hG
    clear hG hH
    by_cases hlt : i < j
    · go_wp2
      go_region
      all_goals go_wp2
      go_roundw
      case rel =>
        refine ⟨i + 1, j - 1, n + 1, swp dk i j, by go_num, by go_num, by omega, by omega, by omega, Lib.hid (perm_swp HP.out hb hai (by omega) (by omega) hjb), Lib.hid ?_⟩
        rw [HW.out, HG.out, HG.out]
        exact swap_worldA _ w n 1 blk off dk i j (by omega) (by omega)
      case measure => simp [intOf]; omega
    · go_wp2
      go_end0
      exact ⟨rfl, n, dk, HP.out, HW.out⟩
end Go.Proofs.Ythedpjlafapfeaa
