import Derived.Shelf.SlGeneric
import Derived.Ground.SlsfProg
import Derived.Shelf.SlLaysF0
import Derived.Shelf.SlSortCmp.InsertionK
import Derived.Test.YtkaipknkjocfiaaGreatZs19
namespace Go.Proofs.YtkaipknkjocfiaaGreat
open Go.RowKit Go.Shelf Go.Lib Go.Sort Go.Proofs
def layI_ren : Go.Shelf.Ren := ⟨fun | 20 => 184 | n => n, fun | 22 => 151 | 24 => 145 | 25 => 188 | 3 => 3 | 0 => 0 | 4 => 4 | n => n, fun | n => n⟩
theorem layI : Go.Proofs.SlLaysF0.n20 Tryz.prog layI_ren := {
 mixed := by kernel_rfl
 f20 := ⟨Tryz.f184.name, by decide, Tryz.func184.trans (congrArg some (by kernel_rfl))⟩
 t0 := Tryz.underlying0
 a0 := Tryz.isAgg0
 z0 := Tryz.sizeOf0
 v0 := Tryz.zeroValue0
 t3 := Tryz.underlying3
 a3 := Tryz.isAgg3
 z3 := Tryz.sizeOf3
 v3 := Tryz.zeroValue3
 t4 := Tryz.underlying4
 a4 := Tryz.isAgg4
 z4 := Tryz.sizeOf4
 v4 := Tryz.zeroValue4
 t22 := Tryz.underlying151
 a22 := Tryz.isAgg151
 z22 := Tryz.sizeOf151
 v22 := Tryz.zeroValue151
 t25 := Tryz.underlying188
 a25 := Tryz.isAgg188
 z25 := Tryz.sizeOf188
 v25 := Tryz.zeroValue188
}
variable {α : Type} [Inhabited α]
theorem ins_w (k : Nat) (zE : ∀ w, (Go.sizeOf 145).run Tryz.prog w = .ok k w) (enc : α → List Value) (cf : α → α → Int) (g : Nat) (cb : Array Value) (blk off cap a b : Nat) (d0 d : Array α) (w0 w : World)
  (eg : ∀ args w, (callFunc g args).run Tryz.prog w = .ok (.enter g args) w) (hcmp : CmpLays Tryz.prog g cb enc k cf blk off d0.size w0) (R : RowK enc k w0 blk off d0) (hs : d0.size = d.size) (S : SWK enc k w0 blk off d w) (hO : SWO (ltOf cf)) (hab : a ≤ b) (hb : b ≤ d.size) (hsz : d.size < 4611686018427387904) :
  Calls Tryz.prog 184 #[.slice (some ⟨blk, off, none⟩) d.size cap, .int .i64 (a : Int), .int .i64 (b : Int), .func (.func g) #[] cb] w fun e w' => e = .returned (.tuple #[]) ∧ ∃ d', MergeP (ltOf cf) d d' a b ∧ SWK enc k w0 blk off d' w' := by
 have hi := insertionSort_holds hO d a b hab hb
 have hs' : (Sort.insertionSort (ltOf cf) d a b).size = d.size := hi.1.1
 have hC : CmpLays Tryz.prog g cb enc k cf blk off d.size w := fun m os dk hdk x y => by
  obtain ⟨n0, os0, rfl⟩ := S
  rw [sortWorldK_on enc k w0 blk off n0 m d dk os0 os R.hblk hdk]
  exact hcmp _ _ dk (by omega) x y
 have h := AnyQ.insertionSortCmpFunc layI k Tryz.isAgg145 zE enc R.hk R.h1 cf g cb blk off cap a b d w eg hC (S.holds R.hblk R.hH hs.symm) (S.lt R.hblk) hab hb hsz
 refine Calls.mono (P := Tryz.prog) (f := 184) h ?_
 rintro e w' ⟨rfl, n, os, rfl⟩
 exact ⟨rfl, _, ⟨hi.1, hi.2⟩, S.on R.hblk n _ os hs'⟩
theorem dbl {t bs A : Nat} (h : A = t * (2 * bs)) : 2 * t * bs = A ∧ (2 * t + 1) * bs = A + bs ∧ (t + 1) * (2 * bs) = A + 2 * bs ∧ 2 * (t + 1) * bs = A + 2 * bs := by
 have e : 2 * t * bs = A := by rw [h, Nat.mul_comm 2 t, Nat.mul_assoc]
 refine ⟨e, by rw [Nat.add_mul, e, Nat.one_mul], by rw [Nat.add_mul, ← h, Nat.one_mul], ?_⟩
 rw [Nat.mul_add, Nat.add_mul, e]
theorem merge_still {lt : α → α → Bool} {d : Array α} {a b : Nat} (h : SortedIn lt a b d) : MergeP lt d d a b := ⟨permIn_refl _ _ _, h⟩
set_option maxHeartbeats 8000000 in
set_option maxRecDepth 1000000 in
theorem stable_k (k : Nat) (zE : ∀ w, (Go.sizeOf 145).run Tryz.prog w = .ok k w) (enc : α → List Value) (cf : α → α → Int) (hO : SWO (ltOf cf)) (g : Nat) (cb : Array Value) (blk off cap : Nat) (d : Array α) (w : World)
  (eg : ∀ args w, (callFunc g args).run Tryz.prog w = .ok (.enter g args) w) (hcmp : CmpLays Tryz.prog g cb enc k cf blk off d.size w) (R : RowK enc k w blk off d) (hsz : d.size < 1152921504606846976) :
  Calls Tryz.prog 165 #[.slice (some ⟨blk, off, none⟩) d.size cap, .int .i64 (d.size : Int), .func (.func g) #[] cb] w fun e w' => e = .returned (.tuple #[]) ∧ ∃ d', MergeP (ltOf cf) d d' 0 d.size ∧ SWK enc k w blk off d' w' := by
 obtain ⟨n, hn⟩ : ∃ n, n = d.size := ⟨_, rfl⟩
 have HINS : Hid (∀ (a b : Nat) (dk : Array α) (W : World), dk.size = n → SWK enc k w blk off dk W → a ≤ b → b ≤ n → Calls Tryz.prog 184 #[.slice (some ⟨blk, off, none⟩) n cap, .int .i64 (a : Int), .int .i64 (b : Int), .func (.func g) #[] cb] W fun e w' => e = .returned (.tuple #[]) ∧ ∃ d', MergeP (ltOf cf) dk d' a b ∧ SWK enc k w blk off d' w') := Lib.hid fun a b dk W h1 h2 h3 h4 => by
  have := ins_w k zE enc cf g cb blk off cap a b d dk w W eg hcmp R (by omega) h2 hO h3 (by omega) (by omega)
  rwa [h1] at this
 have HSYM : Hid (∀ (a m b : Nat) (dk : Array α) (W : World), dk.size = n → SWK enc k w blk off dk W → a < m → m < b → b ≤ n → SortedIn (ltOf cf) a m dk → SortedIn (ltOf cf) m b dk → Calls Tryz.prog 185 #[.slice (some ⟨blk, off, none⟩) n cap, .int .i64 (a : Int), .int .i64 (m : Int), .int .i64 (b : Int), .func (.func g) #[] cb] W fun e w' => e = .returned (.tuple #[]) ∧ ∃ d', MergeP (ltOf cf) dk d' a b ∧ SWK enc k w blk off d' w') := Lib.hid fun a m b dk W h1 h2 h3 h4 h5 h6 h7 => by
  have := sym_any k zE enc cf hO g cb blk off cap d w eg hcmp R (b - a + 1) a m b dk W (by omega) (by omega) h2 h3 h4 (by omega) (by omega) h6 h7
  rwa [h1] at this
 have S0 : Aside (SWK enc k w blk off d w) := SWK.start R.hH
 rw [← hn]
 have HN := Lib.hid hn
 have hsz' : n < 1152921504606846976 := by omega
 clear eg hcmp R hsz hO hn
 go_enter Tryz.func165, Tryz.ntmps165
 go_wp2
 go_loopg [7, 8] n (fun kx s1 s2 wr => ∃ (t A B : Nat) (dk : Array α), s1 = .int .i64 (A : Int) ∧ s2 = .int .i64 (B : Int) ∧ A ≤ n ∧ A < B ∧ B ≤ n + 20 ∧ n - A ≤ kx ∧ Aside (A = t * 20 ∧ B = A + 20 ∧ dk.size = n ∧ PermIn 0 n d dk ∧ Done (ltOf cf) 20 t dk) ∧ Aside (SWK enc k w blk off dk wr))
 case atStart => exact ⟨0, 0, 20, d, rfl, by first | rfl | go_num, Nat.zero_le _, by omega, by omega, Nat.le_refl _, ⟨rfl, rfl, HN.out.symm, permIn_refl _ _ _, fun u hu => absurd hu (Nat.not_lt_zero _)⟩, S0⟩
 case round =>
  clear S0
  obtain ⟨t, A, B, dk, rfl, rfl, hAn, hAB, hBn, hkx, HX, S1⟩ := hrel
  by_cases hle : B ≤ n
  · have hlez : (B : Int) ≤ (n : Int) := by omega
    have hc := HINS.out A B dk wr HX.out.2.2.1 S1.out (by omega) hle
    have HCC := Lib.hid hc
    clear hc
    go_wp2_with (go_at_call 184; refine HCC.out.mono ?_; rintro e w1 ⟨rfl, d1, hr, hS⟩; have HR1 : Aside (MergeP (ltOf cf) dk d1 A B ∧ SWK enc k w blk off d1 w1) := ⟨hr, hS⟩; clear hr hS)
    go_roundg (n - B)
    case measure => omega
    case rel =>
     obtain ⟨e1, e2, e3, e4, e5⟩ := HX.out
     refine ⟨t + 1, B, B + 20, d1, rfl, by first | rfl | go_num, hle, by omega, by omega, Nat.le_refl _, ⟨by omega, rfl, by rw [HR1.out.1.size]; exact e3, ?_, ?_⟩, HR1.out.2⟩
     · exact permIn_trans _ _ _ _ _ e4 (permIn_mono _ _ _ _ _ _ (Nat.zero_le _) hle (by omega) HR1.out.1.perm)
     · refine e5.step ?_
       rw [← e1, ← e2]; exact HR1.out.1
  · have hlez : ¬ (B : Int) ≤ (n : Int) := by omega
    have hc := HINS.out A n dk wr HX.out.2.2.1 S1.out hAn (Nat.le_refl _)
    have HCC := Lib.hid hc
    clear hc
    go_wp2_with (go_at_call 184; refine HCC.out.mono ?_; rintro e w1 ⟨rfl, d1, hr, hS⟩; have HR1 : Aside (MergeP (ltOf cf) dk d1 A n ∧ SWK enc k w blk off d1 w1) := ⟨hr, hS⟩; clear hr hS)
    have HB : Hid (d1.size = n ∧ PermIn 0 n d d1 ∧ Blks (ltOf cf) 20 n 0 d1) := Lib.hid (by
     obtain ⟨e1, e2, e3, e4, e5⟩ := HX.out
     refine ⟨by rw [HR1.out.1.size]; exact e3, permIn_trans _ _ _ _ _ e4 (permIn_mono _ _ _ _ _ _ (Nat.zero_le _) (Nat.le_refl _) (by omega) HR1.out.1.perm), ?_⟩
     refine e5.whole (by omega) (by omega) ?_
     rw [← e1]; exact HR1.out.1)
    clear HX S1 HCC
    go_loopg [6] (n - 20) (fun kx s1 wr => ∃ (bs : Nat) (dk : Array α), s1 = .int .i64 (bs : Int) ∧ 20 ≤ bs ∧ bs < 2305843009213693952 ∧ n - bs ≤ kx ∧ Aside (dk.size = n ∧ PermIn 0 n d dk ∧ Blks (ltOf cf) bs n 0 dk) ∧ Aside (SWK enc k w blk off dk wr))
    case atStart => exact ⟨20, d1, by first | rfl | go_num, Nat.le_refl _, by omega, Nat.le_refl _, HB.out, HR1.out.2⟩
    case round =>
     clear HB HR1
     obtain ⟨bs, dk, rfl, hb20, hbl, hkx2, HX, S1⟩ := hrel
     by_cases hlt : bs < n
     · have hltz : (bs : Int) < (n : Int) := by omega
       go_wp2_with fail
       go_loopg [7, 8] n (fun kx s1 s2 wr => ∃ (t A B : Nat) (dk : Array α), s1 = .int .i64 (A : Int) ∧ s2 = .int .i64 (B : Int) ∧ A ≤ n ∧ A + 2 * bs = B ∧ n - A ≤ kx ∧ Aside (A = t * (2 * bs) ∧ dk.size = n ∧ PermIn 0 n d dk ∧ Done (ltOf cf) (2 * bs) t dk ∧ Blks (ltOf cf) bs n (2 * t) dk) ∧ Aside (SWK enc k w blk off dk wr))
       case atStart => exact ⟨0, 0, 2 * bs, dk, rfl, by first | rfl | go_num, Nat.zero_le _, by omega, Nat.le_refl _, ⟨by omega, HX.out.1, HX.out.2.1, (fun u hu => absurd hu (Nat.not_lt_zero _)), HX.out.2.2⟩, S1⟩
       case round =>
        clear HX S1
        obtain ⟨t, A, B, dk, rfl, rfl, hAn, hAB, hkx3, HX, S1⟩ := hrel
        have HAB := Lib.hid hAB
        by_cases hle : B ≤ n
        · have hlez : (B : Int) ≤ (n : Int) := by omega
          have hc := HSYM.out A (A + bs) B dk wr HX.out.2.1 S1.out (by omega) (by omega) hle (by
            obtain ⟨e1, e2, e3, e4, e5⟩ := HX.out
            have h := e5.at_ (by rw [(dbl e1).1]; omega)
            rwa [(dbl e1).1] at h) (by
            obtain ⟨e1, e2, e3, e4, e5⟩ := HX.out
            have h := (e5.out (permIn_refl dk 0 0) (show 2 * t ≤ 2 * t + 1 by omega) (Nat.zero_le _)).at_ (by rw [(dbl e1).2.1]; omega)
            rwa [(dbl e1).2.1, show A + bs + bs = B by omega] at h)
          rw [show ((A + bs : Nat) : Int) = (A : Int) + (bs : Int) by omega] at hc
          have HCC := Lib.hid hc
          have hBl : B < 4611686018427387904 := by omega
          have hAl : A + bs < 4611686018427387904 := by omega
          clear hc hAB
          go_wp2_with (go_at_call 185; refine HCC.out.mono ?_; rintro e w1 ⟨rfl, d1, hr, hS⟩; have HR1 : Aside (MergeP (ltOf cf) dk d1 A B ∧ SWK enc k w blk off d1 w1) := ⟨hr, hS⟩; clear hr hS)
          go_roundg (n - B)
          case measure => have := HAB.out; omega
          case rel =>
            obtain ⟨e1, e2, e3, e4, e5⟩ := HX.out
            have hAB := HAB.out
            refine ⟨t + 1, B, B + 2 * bs, d1, rfl, by first | rfl | go_num, hle, rfl, Nat.le_refl _, ⟨by rw [(dbl e1).2.2.1]; omega, by rw [HR1.out.1.size]; exact e2, ?_, ?_, ?_⟩, HR1.out.2⟩
            · exact permIn_trans _ _ _ _ _ e3 (permIn_mono _ _ _ _ _ _ (Nat.zero_le _) hle (by omega) HR1.out.1.perm)
            · refine e4.step ?_
              rw [← e1, hAB]; exact HR1.out.1
            · exact e5.out HR1.out.1.perm (by omega) (by rw [(dbl e1).2.2.2]; omega)
        · have hlez : ¬ (B : Int) ≤ (n : Int) := by omega
          by_cases hm : A + bs < n
          · have hmz : (A : Int) + (bs : Int) < (n : Int) := by omega
            have hc := HSYM.out A (A + bs) n dk wr HX.out.2.1 S1.out (by omega) hm (Nat.le_refl _) (by
              obtain ⟨e1, e2, e3, e4, e5⟩ := HX.out
              have h := e5.at_ (by rw [(dbl e1).1]; omega)
              rwa [(dbl e1).1] at h) (by
              obtain ⟨e1, e2, e3, e4, e5⟩ := HX.out
              have h := (e5.out (permIn_refl dk 0 0) (show 2 * t ≤ 2 * t + 1 by omega) (Nat.zero_le _)).last (by rw [(dbl e1).2.1]; omega)
              rwa [(dbl e1).2.1] at h)
            rw [show ((A + bs : Nat) : Int) = (A : Int) + (bs : Int) by omega] at hc
            have HCC := Lib.hid hc
            have hBl : B < 4611686018427387904 := by omega
            have hAl : A + bs < 4611686018427387904 := by omega
            clear hc hAB
            go_wp2_with (go_at_call 185; refine HCC.out.mono ?_; rintro e w1 ⟨rfl, d1, hr, hS⟩; have HR1 : Aside (MergeP (ltOf cf) dk d1 A n ∧ SWK enc k w blk off d1 w1) := ⟨hr, hS⟩; clear hr hS)
            go_roundg (n - bs * 2)
            case measure => omega
            case rel =>
              obtain ⟨e1, e2, e3, e4, e5⟩ := HX.out
              have hAB := HAB.out
              refine ⟨bs * 2, d1, by first | rfl | go_num, by omega, by omega, Nat.le_refl _, ⟨by rw [HR1.out.1.size]; exact e2, ?_, ?_⟩, HR1.out.2⟩
              · exact permIn_trans _ _ _ _ _ e3 (permIn_mono _ _ _ _ _ _ (Nat.zero_le _) (Nat.le_refl _) (by omega) HR1.out.1.perm)
              · rw [Nat.mul_comm bs 2]
                refine e4.whole (by omega) (by omega) ?_
                rw [← e1]; exact HR1.out.1
          · have hmz : ¬ (A : Int) + (bs : Int) < (n : Int) := by omega
            have hBl : B < 4611686018427387904 := by omega
            have hAl : A + bs < 4611686018427387904 := by omega
            clear hAB
            go_wp2_with fail
            go_roundg (n - bs * 2)
            case measure => omega
            case rel =>
              obtain ⟨e1, e2, e3, e4, e5⟩ := HX.out
              have hAB := HAB.out
              refine ⟨bs * 2, dk, by first | rfl | go_num, by omega, by omega, Nat.le_refl _, ⟨e2, e3, ?_⟩, S1⟩
              rw [Nat.mul_comm bs 2]
              refine e4.whole (by omega) (by omega) (merge_still ?_)
              have h := e5.last (by rw [(dbl e1).1]; omega)
              rwa [(dbl e1).1, e1] at h
     · have hltz : ¬ (bs : Int) < (n : Int) := by omega
       go_wp2_with fail
       go_end0
       exact ⟨rfl, dk, ⟨HX.out.2.1, HX.out.2.2.one (by omega)⟩, S1.out⟩
theorem sortStable_k (k : Nat) (zE : ∀ w, (Go.sizeOf 145).run Tryz.prog w = .ok k w) (enc : α → List Value) (cf : α → α → Int) (hO : SWO (ltOf cf)) (g : Nat) (cb : Array Value) (blk off cap : Nat) (d : Array α) (w : World)
  (eg : ∀ args w, (callFunc g args).run Tryz.prog w = .ok (.enter g args) w) (hcmp : CmpLays Tryz.prog g cb enc k cf blk off d.size w) (R : RowK enc k w blk off d) (hsz : d.size < 1152921504606846976) :
  Calls Tryz.prog 136 #[.slice (some ⟨blk, off, none⟩) d.size cap, .func (.func g) #[] cb] w fun e w' => e = .returned (.tuple #[]) ∧ ∃ d', MergeP (ltOf cf) d d' 0 d.size ∧ SWK enc k w blk off d' w' := by
 have HC := Lib.hid (stable_k k zE enc cf hO g cb blk off cap d w eg hcmp R hsz)
 clear hcmp R eg
 go_enter Tryz.func136, Tryz.ntmps136
 go_wp2_with (go_at_call 165; refine HC.out.mono ?_; rintro e w1 ⟨rfl, d1, hr, hS⟩)
 go_end0
 exact ⟨rfl, d1, hr, hS⟩
theorem sortStable_none (cap : Nat) (fv : Value) (w : World) : Calls Tryz.prog 136 #[.slice none 0 cap, fv] w fun e w' => e = .returned (.tuple #[]) ∧ w' = w := by
 have hi : Calls Tryz.prog 184 #[.slice none 0 cap, .int .i64 0, .int .i64 0, fv] w fun e w' => e = .returned (.tuple #[]) ∧ w' = w := by
  go_enter Tryz.func184, Tryz.ntmps184
  go_wp2
  go_loopg [8] 0 (fun kx s wr => s = .int .i64 1 ∧ wr = w)
  case atStart => exact ⟨by first | rfl | go_num, rfl⟩
  case round =>
   obtain ⟨rfl, rfl⟩ := hrel
   go_wp2
   go_end0
   exact ⟨rfl, rfl⟩
 have hs : Calls Tryz.prog 165 #[.slice none 0 cap, .int .i64 0, fv] w fun e w' => e = .returned (.tuple #[]) ∧ w' = w := by
  have HI := Lib.hid hi
  clear hi
  go_enter Tryz.func165, Tryz.ntmps165
  go_wp2
  go_loopg [7, 8] 0 (fun kx s1 s2 wr => s1 = .int .i64 0 ∧ s2 = .int .i64 20 ∧ wr = w)
  case atStart => exact ⟨rfl, rfl, rfl⟩
  case round =>
   obtain ⟨rfl, rfl, rfl⟩ := hrel
   go_wp2_with (go_at_call 184; refine HI.out.mono ?_; rintro e w1 ⟨rfl, h1⟩; subst h1)
   go_loopg [6] 0 (fun kx s1 wx => s1 = .int .i64 20 ∧ wx = w1)
   case atStart => exact ⟨rfl, rfl⟩
   case round =>
    obtain ⟨rfl, rfl⟩ := hrel
    go_wp2_with fail
    go_end0
    exact ⟨rfl, rfl⟩
 have HS := Lib.hid hs
 clear hi hs
 go_enter Tryz.func136, Tryz.ntmps136
 go_wp2_with (go_at_call 165; refine HS.out.mono ?_; rintro e w1 ⟨rfl, rfl⟩)
 go_end0
 exact ⟨rfl, rfl⟩
end Go.Proofs.YtkaipknkjocfiaaGreat
