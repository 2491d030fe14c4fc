import Derived.Shelf.SlGeneric
import Derived.Ground.SlsfProg
import Derived.Shelf.SlLaysF0
import Derived.Shelf.SlSortCmp.InsertionK
import Derived.Test.YtkaipknkjocfiaaGreatZa20
namespace Go.Proofs.YtkaipknkjocfiaaGreat
open Go.RowKit Go.Shelf Go.Lib Go.Sort Go.Proofs
def layI_ren : Go.Shelf.Ren := ⟨fun | 20 => 184 | n => n, fun | 22 => 151 | 24 => 145 | 25 => 188 | 3 => 3 | 0 => 0 | 4 => 4 | n => n, fun | n => n⟩
theorem layI : Go.Proofs.SlLaysF0.n20 Tryz.prog layI_ren := {
 mixed := by kernel_rfl
 f20 := ⟨Tryz.f184.name, by decide, Tryz.func184.trans (congrArg some (by kernel_rfl))⟩
 t0 := Tryz.underlying0
 a0 := Tryz.isAgg0
 z0 := Tryz.sizeOf0
 v0 := Tryz.zeroValue0
 t3 := Tryz.underlying3
 a3 := Tryz.isAgg3
 z3 := Tryz.sizeOf3
 v3 := Tryz.zeroValue3
 t4 := Tryz.underlying4
 a4 := Tryz.isAgg4
 z4 := Tryz.sizeOf4
 v4 := Tryz.zeroValue4
 t22 := Tryz.underlying151
 a22 := Tryz.isAgg151
 z22 := Tryz.sizeOf151
 v22 := Tryz.zeroValue151
 t25 := Tryz.underlying188
 a25 := Tryz.isAgg188
 z25 := Tryz.sizeOf188
 v25 := Tryz.zeroValue188
}
variable {α : Type} [Inhabited α]
theorem ins_w (k : Nat) (zE : ∀ w, (Go.sizeOf 145).run Tryz.prog w = .ok k w) (enc : α → List Value) (cf : α → α → Int) (g : Nat) (cb : Array Value) (blk off cap a b : Nat) (d0 d : Array α) (w0 w : World)
  (eg : ∀ args w, (callFunc g args).run Tryz.prog w = .ok (.enter g args) w) (hcmp : CmpLays Tryz.prog g cb enc k cf blk off d0.size w0) (R : RowK enc k w0 blk off d0) (hs : d0.size = d.size) (S : SWK enc k w0 blk off d w) (hO : SWO (ltOf cf)) (hab : a ≤ b) (hb : b ≤ d.size) (hsz : d.size < 4611686018427387904) :
  Calls Tryz.prog 184 #[.slice (some ⟨blk, off, none⟩) d.size cap, .int .i64 (a : Int), .int .i64 (b : Int), .func (.func g) #[] cb] w fun e w' => e = .returned (.tuple #[]) ∧ ∃ d', MergeP (ltOf cf) d d' a b ∧ SWK enc k w0 blk off d' w' := by
 have hi := insertionSort_holds hO d a b hab hb
 have hs' : (Sort.insertionSort (ltOf cf) d a b).size = d.size := hi.1.1
 have hC : CmpLays Tryz.prog g cb enc k cf blk off d.size w := fun m os dk hdk x y => by
  obtain ⟨n0, os0, rfl⟩ := S
  rw [sortWorldK_on enc k w0 blk off n0 m d dk os0 os R.hblk hdk]
  exact hcmp _ _ dk (by omega) x y
 have h := AnyQ.insertionSortCmpFunc layI k Tryz.isAgg145 zE enc R.hk R.h1 cf g cb blk off cap a b d w eg hC (S.holds R.hblk R.hH hs.symm) (S.lt R.hblk) hab hb hsz
 refine Calls.mono (P := Tryz.prog) (f := 184) h ?_
 rintro e w' ⟨rfl, n, os, rfl⟩
 exact ⟨rfl, _, ⟨hi.1, hi.2⟩, S.on R.hblk n _ os hs'⟩
theorem dbl {t bs A : Nat} (h : A = t * (2 * bs)) : 2 * t * bs = A ∧ (2 * t + 1) * bs = A + bs ∧ (t + 1) * (2 * bs) = A + 2 * bs ∧ 2 * (t + 1) * bs = A + 2 * bs := by
 have e : 2 * t * bs = A := by rw [h, Nat.mul_comm 2 t, Nat.mul_assoc]
 refine ⟨e, by rw [Nat.add_mul, e, Nat.one_mul], by rw [Nat.add_mul, ← h, Nat.one_mul], ?_⟩
 rw [Nat.mul_add, Nat.add_mul, e]
theorem merge_still {lt : α → α → Bool} {d : Array α} {a b : Nat} (h : SortedIn lt a b d) : MergeP lt d d a b := ⟨permIn_refl _ _ _, h⟩
set_option maxHeartbeats 8000000 in
set_option maxRecDepth 1000000 in
theorem stable_k (k : Nat) (zE : ∀ w, (Go.sizeOf 145).run Tryz.prog w = .ok k w) (enc : α → List Value) (cf : α → α → Int) (hO : SWO (ltOf cf)) (g : Nat) (cb : Array Value) (blk off cap : Nat) (d : Array α) (w : World)
  (eg : ∀ args w, (callFunc g args).run Tryz.prog w = .ok (.enter g args) w) (hcmp : CmpLays Tryz.prog g cb enc k cf blk off d.size w) (R : RowK enc k w blk off d) (hsz : d.size < 1152921504606846976) :
  Calls Tryz.prog 165 #[.slice (some ⟨blk, off, none⟩) d.size cap, .int .i64 (d.size : Int), .func (.func g) #[] cb] w fun e w' => e = .returned (.tuple #[]) ∧ ∃ d', MergeP (ltOf cf) d d' 0 d.size ∧ SWK enc k w blk off d' w' := by
 obtain ⟨n, hn⟩ : ∃ n, n = d.size := ⟨_, rfl⟩
 have HINS : Hid (∀ (a b : Nat) (dk : Array α) (W : World), dk.size = n → SWK enc k w blk off dk W → a ≤ b → b ≤ n → Calls Tryz.prog 184 #[.slice (some ⟨blk, off, none⟩) n cap, .int .i64 (a : Int), .int .i64 (b : Int), .func (.func g) #[] cb] W fun e w' => e = .returned (.tuple #[]) ∧ ∃ d', MergeP (ltOf cf) dk d' a b ∧ SWK enc k w blk off d' w') := Lib.hid fun a b dk W h1 h2 h3 h4 => by
  have := ins_w k zE enc cf g cb blk off cap a b d dk w W eg hcmp R (by omega) h2 hO h3 (by omega) (by omega)
  rwa [h1] at this
 have HSYM : Hid (∀ (a m b : Nat) (dk : Array α) (W : World), dk.size = n → SWK enc k w blk off dk W → a < m → m < b → b ≤ n → SortedIn (ltOf cf) a m dk → SortedIn (ltOf cf) m b dk → Calls Tryz.prog 185 #[.slice (some ⟨blk, off, none⟩) n cap, .int .i64 (a : Int), .int .i64 (m : Int), .int .i64 (b : Int), .func (.func g) #[] cb] W fun e w' => e = .returned (.tuple #[]) ∧ ∃ d', MergeP (ltOf cf) dk d' a b ∧ SWK enc k w blk off d' w') := Lib.hid fun a m b dk W h1 h2 h3 h4 h5 h6 h7 => by
  have := sym_any k zE enc cf hO g cb blk off cap d w eg hcmp R (b - a + 1) a m b dk W (by omega) (by omega) h2 h3 h4 (by omega) (by omega) h6 h7
  rwa [h1] at this
 have S0 : Aside (SWK enc k w blk off d w) := SWK.start R.hH
 rw [← hn]
 have HN := Lib.hid hn
 have hsz' : n < 1152921504606846976 := by omega
 clear eg hcmp R hsz hO hn
 go_enter Tryz.func165, Tryz.ntmps165
 go_wp2
 go_loopg [7, 8] n (fun kx s1 s2 wr => ∃ (t A B : Nat) (dk : Array α), s1 = .int .i64 (A : Int) ∧ s2 = .int .i64 (B : Int) ∧ A ≤ n ∧ A < B ∧ B ≤ n + 20 ∧ n - A ≤ kx ∧ Aside (A = t * 20 ∧ B = A + 20 ∧ dk.size = n ∧ PermIn 0 n d dk ∧ Done (ltOf cf) 20 t dk) ∧ Aside (SWK enc k w blk off dk wr))
 case atStart => exact ⟨0, 0, 20, d, rfl, by first | rfl | go_num, Nat.zero_le _, by omega, by omega, Nat.le_refl _, ⟨rfl, rfl, HN.out.symm, permIn_refl _ _ _, fun u hu => absurd hu (Nat.not_lt_zero _)⟩, S0⟩
 case round =>
  clear S0
  obtain ⟨t, A, B, dk, rfl, rfl, hAn, hAB, hBn, hkx, HX, S1⟩ := hrel
  by_cases hle : B ≤ n
  · have hlez : (B : Int) ≤ (n : Int) := by omega
    have hc := HINS.out A B dk wr HX.out.2.2.1 S1.out (by omega) hle
    have HCC := Lib.hid hc
    clear hc
    go_wp2_with (go_at_call 184; refine HCC.out.mono ?_; rintro e w1 ⟨rfl, d1, hr, hS⟩; have HR1 : Aside (MergeP (ltOf cf) dk d1 A B ∧ SWK enc k w blk off d1 w1) := ⟨hr, hS⟩; clear hr hS)
    go_roundg (n - B)
    case measure => omega
    case rel =>
     obtain ⟨e1, e2, e3, e4, e5⟩ := HX.out
     refine ⟨t + 1, B, B + 20, d1, rfl, by first | rfl | go_num, hle, by omega, by omega, Nat.le_refl _, ⟨by omega, rfl, by rw [HR1.out.1.size]; exact e3, ?_, ?_⟩, HR1.out.2⟩
     · exact permIn_trans _ _ _ _ _ e4 (permIn_mono _ _ _ _ _ _ (Nat.zero_le _) hle (by omega) HR1.out.1.perm)
     · refine e5.step ?_
       rw [← e1, ← e2]; exact HR1.out.1
  · have hlez : ¬ (B : Int) ≤ (n : Int) := by omega
    have hc := HINS.out A n dk wr HX.out.2.2.1 S1.out hAn (Nat.le_refl _)
    have HCC := Lib.hid hc
    clear hc
    go_wp2_with (go_at_call 184; refine HCC.out.mono ?_; rintro e w1 ⟨rfl, d1, hr, hS⟩; have HR1 : Aside (MergeP (ltOf cf) dk d1 A n ∧ SWK enc k w blk off d1 w1) := ⟨hr, hS⟩; clear hr hS)
    have HB : Hid (d1.size = n ∧ PermIn 0 n d d1 ∧ Blks (ltOf cf) 20 n 0 d1) := Lib.hid (by
     obtain ⟨e1, e2, e3, e4, e5⟩ := HX.out
     refine ⟨by rw [HR1.out.1.size]; exact e3, permIn_trans _ _ _ _ _ e4 (permIn_mono _ _ _ _ _ _ (Nat.zero_le _) (Nat.le_refl _) (by omega) HR1.out.1.perm), ?_⟩
     refine e5.whole (by omega) (by omega) ?_
     rw [← e1]; exact HR1.out.1)
    clear HX S1 HCC
    go_loopg [6] (n - 20) (fun kx s1 wr => ∃ (bs : Nat) (dk : Array α), s1 = .int .i64 (bs : Int) ∧ 20 ≤ bs ∧ bs < 2305843009213693952 ∧ n - bs ≤ kx ∧ Aside (dk.size = n ∧ PermIn 0 n d dk ∧ Blks (ltOf cf) bs n 0 dk) ∧ Aside (SWK enc k w blk off dk wr))
    case atStart => exact ⟨20, d1, by first | rfl | go_num, Nat.le_refl _, by omega, Nat.le_refl _, HB.out, HR1.out.2⟩
    case round =>
     clear HB HR1
     obtain ⟨bs, dk, rfl, hb20, hbl, hkx2, HX, S1⟩ := hrel
     by_cases hlt : bs < n
     · have hltz : (bs : Int) < (n : Int) := by omega
       go_wp2_with fail
       go_loopg [7, 8] n (fun kx s1 s2 wr => ∃ (t A B : Nat) (dk : Array α), s1 = .int .i64 (A : Int) ∧ s2 = .int .i64 (B : Int) ∧ A ≤ n ∧ A + 2 * bs = B ∧ n - A ≤ kx ∧ Aside (A = t * (2 * bs) ∧ dk.size = n ∧ PermIn 0 n d dk ∧ Done (ltOf cf) (2 * bs) t dk ∧ Blks (ltOf cf) bs n (2 * t) dk) ∧ Aside (SWK enc k w blk off dk wr))
       case atStart => exact ⟨0, 0, 2 * bs, dk, rfl, by first | rfl | go_num, Nat.zero_le _, by omega, Nat.le_refl _, ⟨by omega, HX.out.1, HX.out.2.1, (fun u hu => absurd hu (Nat.not_lt_zero _)), HX.out.2.2⟩, S1⟩
       case round =>
        clear HX S1
        obtain ⟨t, A, B, dk, rfl, rfl, hAn, hAB, hkx3, HX, S1⟩ := hrel
        have HAB := Lib.hid hAB
        by_cases hle : B ≤ n
        · have hlez : (B : Int) ≤ (n : Int) := by omega
          have hc := HSYM.out A (A + bs) B dk wr HX.out.2.1 S1.out (by omega) (by omega) hle (by
            obtain ⟨e1, e2, e3, e4, e5⟩ := HX.out
            have h := e5.at_ (by rw [(dbl e1).1]; omega)
            rwa [(dbl e1).1] at h) (by
            obtain ⟨e1, e2, e3, e4, e5⟩ := HX.out
            have h := (e5.out (permIn_refl dk 0 0) (show 2 * t ≤ 2 * t + 1 by omega) (Nat.zero_le _)).at_ (by rw [(dbl e1).2.1]; omega)
            rwa [(dbl e1).2.1, show A + bs + bs = B by omega] at h)
          rw [show ((A + bs : Nat) : Int) = (A : Int) + (bs : Int) by omega] at hc
          have HCC := Lib.hid hc
          have hBl : B < 4611686018427387904 := by omega
          have hAl : A + bs < 4611686018427387904 := by omega
          clear hc hAB
          go_wp2_with (go_at_call 185; refine HCC.out.mono ?_; rintro e w1 ⟨rfl, d1, hr, hS⟩; have HR1 : Aside (MergeP (ltOf cf) dk d1 A B ∧ SWK enc k w blk off d1 w1) := ⟨hr, hS⟩; clear hr hS)
          go_roundg (n - B)
          case measure => have := HAB.out; omega
          case rel =>
            obtain ⟨e1, e2, e3, e4, e5⟩ := HX.out
            have hAB := HAB.out
            refine ⟨t + 1, B, B + 2 * bs, d1, rfl, by first | rfl | go_num, hle, rfl, Nat.le_refl _, ⟨by rw [(dbl e1).2.2.1]; omega, by rw [HR1.out.1.size]; exact e2, ?_, ?_, ?_⟩, HR1.out.2⟩
            · exact permIn_trans _ _ _ _ _ e3 (permIn_mono _ _ _ _ _ _ (Nat.zero_le _) hle (by omega) HR1.out.1.perm)
            · refine e4.step ?_
              rw [← e1, hAB]; exact HR1.out.1
            · exact e5.out HR1.out.1.perm (by omega) (by rw [(dbl e1).2.2.2]; omega)
        · have hlez : ¬ (B : Int) ≤ (n : Int) := by omega
          by_cases hm : A + bs < n
          · have hmz : (A : Int) + (bs : Int) < (n : Int) := by omega
            have hc := HSYM.out A (A + bs) n dk wr HX.out.2.1 S1.out (by omega) hm (Nat.le_refl _) (by
              obtain ⟨e1, e2, e3, e4, e5⟩ := HX.out
              have h := e5.at_ (by rw [(dbl e1).1]; omega)
              rwa [(dbl e1).1] at h) (by
              obtain ⟨e1, e2, e3, e4, e5⟩ := HX.out
              have h := (e5.out (permIn_refl dk 0 0) (show 2 * t ≤ 2 * t + 1 by omega) (Nat.zero_le _)).last (by rw [(dbl e1).2.1]; omega)
              rwa [(dbl e1).2.1] at h)
            rw [show ((A + bs : Nat) : Int) = (A : Int) + (bs : Int) by omega] at hc
            have HCC := Lib.hid hc
            have hBl : B < 4611686018427387904 := by omega
            have hAl : A + bs < 4611686018427387904 := by omega
            clear hc hAB
            go_wp2_with (go_at_call 185; refine HCC.out.mono ?_; rintro e w1 ⟨rfl, d1, hr, hS⟩; have HR1 : Aside (MergeP (ltOf cf) dk d1 A n ∧ SWK enc k w blk off d1 w1) := ⟨hr, hS⟩; clear hr hS)
            go_roundg (n - bs * 2)
            case measure => omega
            case rel =>
              obtain ⟨e1, e2, e3, e4, e5⟩ := HX.out
              have hAB := HAB.out
              refine ⟨bs * 2, d1, by first | rfl | go_num, by omega, by omega, Nat.le_refl _, ⟨by rw [HR1.out.1.size]; exact e2, ?_, ?_⟩, HR1.out.2⟩
              · exact permIn_trans _ _ _ _ _ e3 (permIn_mono _ _ _ _ _ _ (Nat.zero_le _) (Nat.le_refl _) (by omega) HR1.out.1.perm)
              · rw [Nat.mul_comm bs 2]
                refine e4.whole (by omega) (by omega) ?_
                rw [← e1]; exact HR1.out.1
          · have hmz : ¬ (A : Int) + (bs : Int) < (n : Int) := by omega
            have hBl : B < 4611686018427387904 := by omega
            have hAl : A + bs < 4611686018427387904 := by omega
            clear hAB
            go_wp2_with fail
            go_roundg (n - bs * 2)
            case measure => omega
            case rel =>
              obtain ⟨e1, e2, e3, e4, e5⟩ := HX.out
              have hAB := HAB.out
              refine ⟨bs * 2, dk, by first | rfl | go_num, by omega, by omega, Nat.le_refl _, ⟨e2, e3, ?_⟩, S1⟩
              rw [Nat.mul_comm bs 2]
              refine e4.whole (by omega) (by omega) (merge_still ?_)
              have h := e5.last (by rw [(dbl e1).1]; omega)
              rwa [(dbl e1).1, e1] at h
     · have hltz : ¬ (bs : Int) < (n : Int) := by omega
       go_wp2_with fail
       go_end0
       exact ⟨rfl, dk, ⟨HX.out.2.1, HX.out.2.2.one (by omega)⟩, S1.out⟩
theorem sortStable_k (k : Nat) (zE : ∀ w, (Go.sizeOf 145).run Tryz.prog w = .ok k w) (enc : α → List Value) (cf : α → α → Int) (hO : SWO (ltOf cf)) (g : Nat) (cb : Array Value) (blk off cap : Nat) (d : Array α) (w : World)
  (eg : ∀ args w, (callFunc g args).run Tryz.prog w = .ok (.enter g args) w) (hcmp : CmpLays Tryz.prog g cb enc k cf blk off d.size w) (R : RowK enc k w blk off d) (hsz : d.size < 1152921504606846976) :
  Calls Tryz.prog 136 #[.slice (some ⟨blk, off, none⟩) d.size cap, .func (.func g) #[] cb] w fun e w' => e = .returned (.tuple #[]) ∧ ∃ d', MergeP (ltOf cf) d d' 0 d.size ∧ SWK enc k w blk off d' w' := by
 have HC := Lib.hid (stable_k k zE enc cf hO g cb blk off cap d w eg hcmp R hsz)
 clear hcmp R eg
 go_enter Tryz.func136, Tryz.ntmps136
 go_wp2_with (go_at_call 165; refine HC.out.mono ?_; rintro e w1 ⟨rfl, d1, hr, hS⟩)
 go_end0
 exact ⟨rfl, d1, hr, hS⟩
theorem sortStable_none (cap : Nat) (fv : Value) (w : World) : Calls Tryz.prog 136 #[.slice none 0 cap, fv] w fun e w' => e = .returned (.tuple #[]) ∧ w' = w := by
 have hi : Calls Tryz.prog 184 #[.slice none 0 cap, .int .i64 0, .int .i64 0, fv] w fun e w' => e = .returned (.tuple #[]) ∧ w' = w := by
  go_enter Tryz.func184, Tryz.ntmps184
  go_wp2
  go_loopg [8] 0 (fun kx s wr => s = .int .i64 1 ∧ wr = w)
  case atStart => exact ⟨by first | rfl | go_num, rfl⟩
  case round =>
   obtain ⟨rfl, rfl⟩ := hrel
   go_wp2
   go_end0
   exact ⟨rfl, rfl⟩
 have hs : Calls Tryz.prog 165 #[.slice none 0 cap, .int .i64 0, fv] w fun e w' => e = .returned (.tuple #[]) ∧ w' = w := by
  have HI := Lib.hid hi
  clear hi
  go_enter Tryz.func165, Tryz.ntmps165
  go_wp2
  go_loopg [7, 8] 0 (fun kx s1 s2 wr => s1 = .int .i64 0 ∧ s2 = .int .i64 20 ∧ wr = w)
  case atStart => exact ⟨rfl, rfl, rfl⟩
  case round =>
   obtain ⟨rfl, rfl, rfl⟩ := hrel
   go_wp2_with (go_at_call 184; refine HI.out.mono ?_; rintro e w1 ⟨rfl, h1⟩; subst h1)
   go_loopg [6] 0 (fun kx s1 wx => s1 = .int .i64 20 ∧ wx = w1)
   case atStart => exact ⟨rfl, rfl⟩
   case round =>
    obtain ⟨rfl, rfl⟩ := hrel
    go_wp2_with fail
    go_end0
    exact ⟨rfl, rfl⟩
 have HS := Lib.hid hs
 clear hi hs
 go_enter Tryz.func136, Tryz.ntmps136
 go_wp2_with (go_at_call 165; refine HS.out.mono ?_; rintro e w1 ⟨rfl, rfl⟩)
 go_end0
 exact ⟨rfl, rfl⟩
end Go.Proofs.YtkaipknkjocfiaaGreat
namespace Go.Proofs.YtkaipknkjocfiaaGreat
open Go.RowKit Go.Shelf Go.Lib Go.Sort Go.Proofs
structure Rk where
 m : Mp
 r : Int
instance : Inhabited Rk := ⟨⟨zMp, 0⟩⟩
def rkE (x : Rk) : Nat → Value
 | 0 => .int .u64 x.m.ipa
 | 1 => .int .u64 x.m.pa
 | 2 => .int .u64 x.m.size
 | 3 => .int .i64 x.m.perm
 | 4 => .int .i64 x.m.kind
 | _ => .int .i64 x.r
theorem rkE_one (x : Rk) (n : Nat) : ∀ i, i < n → (rkE x i).oneCell' = true := by
 intro i _
 unfold rkE
 split <;> rfl
def zRk : Rk := ⟨zMp, 0⟩
theorem infoRk : (Tryz.prog.info? 145).map (·.size) = some 6 := by kernel_rfl
theorem zeroRk (w : World) : (zeroValue 145).run Tryz.prog w = .ok (.agg (vec 6 (rkE zRk))) w :=
 (zero_of_info (P := Tryz.prog) (t := 145) (v := .agg (vec 6 (rkE zRk))) (n := 6) (by kernel_rfl)).1 w
abbrev enc6 (x : Rk) : List Value := [.int .u64 x.m.ipa, .int .u64 x.m.pa, .int .u64 x.m.size, .int .i64 x.m.perm, .int .i64 x.m.kind, .int .i64 x.r]
def cmpN (x y : Int) : Int := if x < y then -1 else if y < x then 1 else 0
def orN (x y : Int) : Int := if x = 0 then y else x
theorem isNaNu_any (x : Int) (w : World) : Calls Tryz.prog 186 #[.int .u64 x] w fun e w' => e = .returned (.bool false) ∧ w' = w := by
 go_enter Tryz.func186, Tryz.ntmps186
 go_wp2
 go_ret
 exact ⟨by simp, rfl⟩
theorem isNaNi_any (x : Int) (w : World) : Calls Tryz.prog 187 #[.int .i64 x] w fun e w' => e = .returned (.bool false) ∧ w' = w := by
 go_enter Tryz.func187, Tryz.ntmps187
 go_wp2
 go_ret
 exact ⟨by simp, rfl⟩
theorem cmpu_any (x y : Int) (w : World) : Calls Tryz.prog 167 #[.int .u64 x, .int .u64 y] w fun e w' => e = .returned (.int .i64 (cmpN x y)) ∧ w' = w := by
 go_enter Tryz.func167, Tryz.ntmps167
 go_wp2_with (go_at_call 186; refine (isNaNu_any _ _).mono ?_; rintro e w' ⟨rfl, rfl⟩)
 all_goals (go_ret; refine ⟨?_, rfl⟩; unfold cmpN; (repeat' split) <;> first | rfl | (exfalso; omega))
theorem cmpi_any (x y : Int) (w : World) : Calls Tryz.prog 168 #[.int .i64 x, .int .i64 y] w fun e w' => e = .returned (.int .i64 (cmpN x y)) ∧ w' = w := by
 go_enter Tryz.func168, Tryz.ntmps168
 go_wp2_with (go_at_call 187; refine (isNaNi_any _ _).mono ?_; rintro e w' ⟨rfl, rfl⟩)
 all_goals (go_ret; refine ⟨?_, rfl⟩; unfold cmpN; (repeat' split) <;> first | rfl | (exfalso; omega))
set_option maxHeartbeats 1000000 in
theorem or_any (a b : Int) (B : Nat) (w : World) (c0 : w.cell? ⟨B, 0, none⟩ = some (.int .i64 a)) (c1 : w.cell? ⟨B, 1, none⟩ = some (.int .i64 b)) :
  Calls Tryz.prog 166 #[.slice (some ⟨B, 0, none⟩) 2 2] w fun e w' => e = .returned (.int .i64 (orN a b)) ∧ w' = w := by
 have HO : Hid (orN a b = if a = 0 then b else a) := Lib.hid rfl
 generalize orN a b = r at HO ⊢
 go_enter Tryz.func166, Tryz.ntmps166
 go_wp2
 go_loopg [8] 2 (fun kx s wr => ∃ k : Nat, s = .int .i64 (k : Int) ∧ k ≤ 2 ∧ 2 - k ≤ kx ∧ Aside ((1 ≤ k → a = 0) ∧ (2 ≤ k → b = 0)) ∧ wr = w)
 case atStart => exact ⟨0, rfl, by omega, by omega, ⟨(fun h => by omega), (fun h => by omega)⟩, rfl⟩
 case round =>
  obtain ⟨k, rfl, hk, hkx, HK, hwr⟩ := hrel
  subst hwr
  rcases (by omega : k = 0 ∨ k = 1 ∨ k = 2) with rfl | rfl | rfl
  · by_cases ha : a = 0
    · have ha2 : (a != 0) = false := by simp [ha]
      have HA := Lib.hid ha
      clear ha
      go_wp2_with fail
      go_roundg 1
      case measure => omega
      case rel => exact ⟨1, by first | rfl | go_num, by omega, by omega, ⟨fun _ => HA.out, fun h => by omega⟩, rfl⟩
    · have ha2 : (a != 0) = true := by simp [ha]
      have HR := Lib.hid (HO.out.trans (if_neg ha))
      clear ha
      go_wp2_with fail
      (try simp only [Exit.inBlock, Exit.then])
      go_ret
      exact ⟨by rw [HR.out]; rfl, rfl⟩
  · by_cases hb : b = 0
    · have hb2 : (b != 0) = false := by simp [hb]
      have HB := Lib.hid hb
      clear hb
      go_wp2_with fail
      go_roundg 0
      case measure => omega
      case rel => exact ⟨2, by first | rfl | go_num, by omega, by omega, ⟨fun _ => HK.out.1 (by omega), fun _ => HB.out⟩, rfl⟩
    · have hb2 : (b != 0) = true := by simp [hb]
      have HR := Lib.hid (HO.out.trans (if_pos (HK.out.1 (by omega))))
      clear hb
      go_wp2_with fail
      (try simp only [Exit.inBlock, Exit.then])
      go_ret
      exact ⟨by rw [HR.out]; rfl, rfl⟩
  · have HR := Lib.hid ((HO.out.trans (if_pos (HK.out.1 (by omega)))).trans (HK.out.2 (by omega)))
    go_wp2_with fail
    go_ret
    exact ⟨by rw [HR.out]; rfl, rfl⟩
def GR (V Y : World) : Prop := ∃ n os, Y = grow (V.drewN n) os
theorem GR.refl (V : World) : GR V V := ⟨0, #[], by rw [grow_empty]; rfl⟩
theorem GR.trans {X Y Z : World} (h : GR X Y) (k : GR Y Z) : GR X Z := by
 obtain ⟨n, os, rfl⟩ := h
 obtain ⟨m, os2, rfl⟩ := k
 exact ⟨n + m, os ++ os2, by
  show grow (grow ((X.drewN n).drewN m) os) os2 = _
  rw [grow_grow]
  show grow { X with drawn := X.drawn + n + m } _ = grow { X with drawn := X.drawn + (n + m) } _
  rw [Nat.add_assoc]⟩
theorem GR.alloc {V Y : World} (h : GR V Y) (o : Obj) : GR V (Y.alloc o) := h.trans ⟨0, #[o], by rw [alloc_eq_grow]; rfl⟩
theorem GR.drew {V Y : World} (h : GR V Y) : GR V Y.drew := h.trans ⟨1, #[], by rw [grow_empty]; rfl⟩
theorem GR.cell {V Y : World} (h : GR V Y) {p : Addr} {v : Value} (hc : V.cell? p = some v) : Y.cell? p = some v := by
 obtain ⟨n, os, rfl⟩ := h
 rw [cell?_grow _ _ _ (by exact World.block_lt_of_cell? V p hc)]
 exact hc
theorem infoInt : (Tryz.prog.info? 3).map (fun i => (i.zero, i.size, i.bytes)) = some (some (.int .i64 0), 1, 8) := by kernel_rfl
theorem build_ints (a b : Int) (w : World) : (Instr.buildSlice 165 2 #[(0, .int .i64 a), (1, .int .i64 b)]).run Tryz.prog w = .ok (.slice (some ⟨w.heap.size, 0, none⟩) 2 2) (w.alloc (.cells #[.int .i64 a, .int .i64 b] 3)) := by
 obtain ⟨i0, hi, hz0, hz1, hz2⟩ := info_parts infoInt
 refine run_buildSlice (P := Tryz.prog) w 165 3 2 _ _ i0 (.int .i64 0) Tryz.underlying165 hi hz0 (by rw [hz1]; decide) (by rw [hz1]; decide) ?_
 rw [hz1]
 kernel_rfl
def ltB (x y : Rk) : Int := orN (cmpN x.m.ipa y.m.ipa) (cmpN x.r y.r)
set_option maxHeartbeats 2000000 in
theorem before_any (x y : Rk) (w : World) : Calls Tryz.prog 137 #[.agg (enc6 x).toArray, .agg (enc6 y).toArray] w fun e w' => e = .returned (.int .i64 (ltB x y)) ∧ ∃ q os', w' = grow (w.drewN q) os' := by
 obtain ⟨⟨x0, x1, x2, x3, x4⟩, xr⟩ := x
 obtain ⟨⟨y0, y1, y2, y3, y4⟩, yr⟩ := y
 obtain ⟨r1, hr1⟩ : ∃ r, r = cmpN x0 y0 := ⟨_, rfl⟩
 obtain ⟨r2, hr2⟩ : ∃ r, r = cmpN xr yr := ⟨_, rfl⟩
 obtain ⟨r3, hr3⟩ : ∃ r, r = orN r1 r2 := ⟨_, rfl⟩
 have e3 : ltB ⟨⟨x0, x1, x2, x3, x4⟩, xr⟩ ⟨⟨y0, y1, y2, y3, y4⟩, yr⟩ = r3 := by unfold ltB; rw [hr3, hr1, hr2]
 rw [e3]
 have H1 := Lib.hid fun W => cmpu_any x0 y0 W
 have H2 := Lib.hid fun W => cmpi_any xr yr W
 have H3 := Lib.hid fun B W h1 h2 => or_any r1 r2 B W h1 h2
 rw [← hr1] at H1
 rw [← hr2] at H2
 rw [← hr3] at H3
 clear hr1 hr2 hr3 e3
 obtain ⟨V, hV⟩ : ∃ V, V = (w.alloc (.cells #[.int .u64 x0, .int .u64 x1, .int .u64 x2, .int .i64 x3, .int .i64 x4, .int .i64 xr] 145)).alloc (.cells #[.int .u64 y0, .int .u64 y1, .int .u64 y2, .int .i64 y3, .int .i64 y4, .int .i64 yr] 145) := ⟨_, rfl⟩
 have hG : GR w V := by rw [hV]; exact ((GR.refl w).alloc _).alloc _
 have HV := Lib.hid hV
 have HG := Lib.hid hG
 have q0 : V.cell? ⟨w.heap.size, 0, none⟩ = some (.int .u64 x0) := by rw [hV]; simp
 have q1 : V.cell? ⟨w.heap.size, 5, none⟩ = some (.int .i64 xr) := by rw [hV]; simp
 have q2 : V.cell? ⟨w.heap.size + 1, 0, none⟩ = some (.int .u64 y0) := by rw [hV]; simp
 have q3 : V.cell? ⟨w.heap.size + 1, 5, none⟩ = some (.int .i64 yr) := by rw [hV]; simp
 have HQ := Lib.hid (And.intro q0 (And.intro q1 (And.intro q2 q3)))
 obtain ⟨g, hg⟩ : ∃ g, g = w.heap.size := ⟨_, rfl⟩
 obtain ⟨h, hh⟩ : ∃ h, h = w.heap.size + 1 := ⟨_, rfl⟩
 have HGH := Lib.hid (And.intro hg hh)
 rw [← hh, ← hg] at HQ
 clear hV hG q0 q1 q2 q3 hg hh
 go_enter Tryz.func137, Tryz.ntmps137
 go_upto_region 1 with fail
 rw [← HV.out]
 rw [← HGH.out.2, ← HGH.out.1]
 refine wp_region_held_drew (S := fun Y => GR V Y) (by kernel_rfl) (GR.drew (GR.refl V)) (fun hS => ?_)
 refine tA 0 (h := ?_)
 refine tA 1 (h := ?_)
 refine tP 2 (hy := by (intro W hW; have hc := (show GR V W from hW).cell HQ.out.1; clear hW; go_simp; (try with_reducible rfl))) (h := ?_)
 refine tA 3 (h := ?_)
 refine tA 4 (h := ?_)
 refine tP 5 (hy := by (intro W hW; have hc := (show GR V W from hW).cell HQ.out.2.2.1; clear hW; go_simp; (try with_reducible rfl))) (h := ?_)
 refine tA 7 (h := ?_)
 refine tP 8 (hy := by (intro W hW; have hc := (show GR V W from hW).cell HQ.out.2.1; clear hW; go_simp; (try with_reducible rfl))) (h := ?_)
 refine tA 9 (h := ?_)
 refine tP 10 (hy := by (intro W hW; have hc := (show GR V W from hW).cell HQ.out.2.2.2; clear hW; go_simp; (try with_reducible rfl))) (h := ?_)
 refine oQ 6 (h := fun K6 hK6 => ?_)
 go_simp
 refine (H1.out _).mono ?_
 rintro e y6 ⟨rfl, rfl⟩
 refine hK6 _ _ hS (fun hS6 => ?_)
 clear hS hK6 K6
 refine oQ 11 (h := fun K11 hK11 => ?_)
 go_simp
 refine (H2.out _).mono ?_
 rintro e y11 ⟨rfl, rfl⟩
 refine hK11 _ _ hS6 (fun hS11 => ?_)
 clear hS6 hK11 K11
 refine oQ 12 (h := fun K12 hK12 => ?_)
 have hbs := fun W => build_ints r1 r2 W
 go_simp
 have c0 := World.cell?_alloc_new
 refine hK12 _ _ ((show GR V _ from hS11).alloc (.cells #[.int .i64 r1, .int .i64 r2] 3)) (fun hS12 => ?_)
 clear hbs hK12 K12 hS11
 refine oQ 13 (h := fun K13 hK13 => ?_)
 go_simp
 refine (H3.out _ _ (by simp) (by simp)).mono ?_
 rintro e y13 ⟨rfl, rfl⟩
 refine hK13 _ _ hS12 (fun hS13 => ?_)
 clear hS12 hK13 K13
 refine tA 14 (h := ?_)
 refine wpAnyH_done (by kernel_rfl) ?_ _
 go_wp2
 go_ret
 exact ⟨rfl, HG.out.trans hS13⟩
end Go.Proofs.YtkaipknkjocfiaaGreat
