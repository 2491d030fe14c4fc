/- The sum of 'abc', told by its words and states; awake. -/
import Derived.Test.YtjblmnkhdablaaaDoorRSum
import Derived.Deep.Cut
import Derived.Lib.SlBytesConst
namespace Go.Proofs.YtjblmnkhdablaaaDoor
open Go.RowKit
attribute [local go_sem ↓ high] zeroV53 zeroV26 zeroV32 zeroV34

def abcW : List W32 := [1633837952, 0, 0, 0, 0, 0, 0, 0, 0, 0, 0, 0, 0, 0, 0, 24, 1633837952, 983040, 2108187653, 1610613702, 1050508152, 25426944, 316456923, 3806512014, 3357629466, 3073800610, 3854317833, 845560923, 2636160359, 3968280267, 1881225380, 3552024379, 2482346367, 996719219, 2952069057, 4043988066, 176896406, 1924104970, 2483675966, 610538786, 2672279444, 4037431130, 1042573945, 657669027, 206005234, 2215296807, 2049510749, 106709978, 4215179723, 3430291419, 3118885940, 2845390439, 2226839261, 3256115900, 344409900, 2987358873, 4015503821, 3957764664, 2682456414, 2025622859, 2755645205, 1720397816, 4004225740, 313650667]
def abcS : List (List W32) := [[1779033703, 3144134277, 1013904242, 2773480762, 1359893119, 2600822924, 528734635, 1541459225], [1567288269, 1779033703, 3144134277, 1013904242, 4197074466, 1359893119, 2600822924, 528734635], [1516951981, 1567288269, 1779033703, 3144134277, 2026797449, 4197074466, 1359893119, 2600822924], [3368241063, 1516951981, 1567288269, 1779033703, 4180228587, 2026797449, 4197074466, 1359893119], [3578852966, 3368241063, 1516951981, 1567288269, 618661968, 4180228587, 2026797449, 4197074466], [71342698, 3578852966, 3368241063, 1516951981, 1135452741, 618661968, 4180228587, 2026797449], [725748213, 71342698, 3578852966, 3368241063, 1900175533, 1135452741, 618661968, 4180228587], [3842179968, 725748213, 71342698, 3578852966, 2603066369, 1900175533, 1135452741, 618661968], [2241887071, 3842179968, 725748213, 71342698, 207977081, 2603066369, 1900175533, 1135452741], [2382687417, 2241887071, 3842179968, 725748213, 852110732, 207977081, 2603066369, 1900175533], [2357671019, 2382687417, 2241887071, 3842179968, 482944406, 852110732, 207977081, 2603066369], [1201185780, 2357671019, 2382687417, 2241887071, 1131095016, 482944406, 852110732, 207977081], [4146054569, 1201185780, 2357671019, 2382687417, 2171590377, 1131095016, 482944406, 852110732], [2274437520, 4146054569, 1201185780, 2357671019, 509051416, 2171590377, 1131095016, 482944406], [3643992854, 2274437520, 4146054569, 1201185780, 1952073950, 509051416, 2171590377, 1131095016], [3227803614, 3643992854, 2274437520, 4146054569, 194179596, 1952073950, 509051416, 2171590377], [2969183118, 3227803614, 3643992854, 2274437520, 123276749, 194179596, 1952073950, 509051416], [567974555, 2969183118, 3227803614, 3643992854, 2150900380, 123276749, 194179596, 1952073950], [3271285201, 567974555, 2969183118, 3227803614, 2221859924, 2150900380, 123276749, 194179596], [4269243327, 3271285201, 567974555, 2969183118, 3431569761, 2221859924, 2150900380, 123276749], [3790736435, 4269243327, 3271285201, 567974555, 2959311225, 3431569761, 2221859924, 2150900380], [2647034723, 3790736435, 4269243327, 3271285201, 2329577776, 2959311225, 3431569761, 2221859924], [3261099373, 2647034723, 3790736435, 4269243327, 3777329520, 2329577776, 2959311225, 3431569761], [2812502591, 3261099373, 2647034723, 3790736435, 1240797514, 3777329520, 2329577776, 2959311225], [3319086477, 2812502591, 3261099373, 2647034723, 2856829767, 1240797514, 3777329520, 2329577776], [472655928, 3319086477, 2812502591, 3261099373, 673443729, 2856829767, 1240797514, 3777329520], [3454534525, 472655928, 3319086477, 2812502591, 339230094, 673443729, 2856829767, 1240797514], [3056518332, 3454534525, 472655928, 3319086477, 3343672598, 339230094, 673443729, 2856829767], [2010346792, 3056518332, 3454534525, 472655928, 3992961016, 3343672598, 339230094, 673443729], [909411017, 2010346792, 3056518332, 3454534525, 1628611511, 3992961016, 3343672598, 339230094], [2684750640, 909411017, 2010346792, 3056518332, 2917635127, 1628611511, 3992961016, 3343672598], [3935906338, 2684750640, 909411017, 2010346792, 17410874, 2917635127, 1628611511, 3992961016], [1941126133, 3935906338, 2684750640, 909411017, 3126399250, 17410874, 2917635127, 1628611511], [2564891911, 1941126133, 3935906338, 2684750640, 2631529974, 3126399250, 17410874, 2917635127], [4267724277, 2564891911, 1941126133, 3935906338, 1495571923, 2631529974, 3126399250, 17410874], [2846323596, 4267724277, 2564891911, 1941126133, 140458035, 1495571923, 2631529974, 3126399250], [1705037796, 2846323596, 4267724277, 2564891911, 4105175766, 140458035, 1495571923, 2631529974], [1101421745, 1705037796, 2846323596, 4267724277, 124953195, 4105175766, 140458035, 1495571923], [887035396, 1101421745, 1705037796, 2846323596, 2768741693, 124953195, 4105175766, 140458035], [1841658506, 887035396, 1101421745, 1705037796, 4034403272, 2768741693, 124953195, 4105175766], [2045405306, 1841658506, 887035396, 1101421745, 519815328, 4034403272, 2768741693, 124953195], [3597076326, 2045405306, 1841658506, 887035396, 641019235, 519815328, 4034403272, 2768741693], [3745932591, 3597076326, 2045405306, 1841658506, 2206934801, 641019235, 519815328, 4034403272], [397020670, 3745932591, 3597076326, 2045405306, 3737995029, 2206934801, 641019235, 519815328], [2638983059, 397020670, 3745932591, 3597076326, 4255271982, 3737995029, 2206934801, 641019235], [643991573, 2638983059, 397020670, 3745932591, 2819559920, 4255271982, 3737995029, 2206934801], [1923828625, 643991573, 2638983059, 397020670, 3077922209, 2819559920, 4255271982, 3737995029], [2706117808, 1923828625, 643991573, 2638983059, 3581645993, 3077922209, 2819559920, 4255271982], [1098003085, 2706117808, 1923828625, 643991573, 4274981830, 3581645993, 3077922209, 2819559920], [91585771, 1098003085, 2706117808, 1923828625, 3178315832, 4274981830, 3581645993, 3077922209], [4045142696, 91585771, 1098003085, 2706117808, 1851537676, 3178315832, 4274981830, 3581645993], [2047150241, 4045142696, 91585771, 1098003085, 1391578359, 1851537676, 3178315832, 4274981830], [2288941602, 2047150241, 4045142696, 91585771, 1227037726, 1391578359, 1851537676, 3178315832], [270520975, 2288941602, 2047150241, 4045142696, 1386118400, 1227037726, 1391578359, 1851537676], [4117770203, 270520975, 2288941602, 2047150241, 2672265155, 1386118400, 1227037726, 1391578359], [1053056219, 4117770203, 270520975, 2288941602, 3842906959, 2672265155, 1386118400, 1227037726], [952932627, 1053056219, 4117770203, 270520975, 1422599787, 3842906959, 2672265155, 1386118400], [4241590395, 952932627, 1053056219, 4117770203, 2606665836, 1422599787, 3842906959, 2672265155], [3227702383, 4241590395, 952932627, 1053056219, 2118385806, 2606665836, 1422599787, 3842906959], [4290184306, 3227702383, 4241590395, 952932627, 1837350854, 2118385806, 2606665836, 1422599787], [3064893439, 4290184306, 3227702383, 4241590395, 2988158269, 1837350854, 2118385806, 2606665836], [3093179625, 3064893439, 4290184306, 3227702383, 2518632596, 2988158269, 1837350854, 2118385806], [80891244, 3093179625, 3064893439, 4290184306, 2492278198, 2518632596, 2988158269, 1837350854], [3550093669, 80891244, 3093179625, 3064893439, 4212265488, 2492278198, 2518632596, 2988158269], [1349398616, 3550093669, 80891244, 3093179625, 1593118500, 4212265488, 2492278198, 2518632596]]
def at2 (l : List (List W32)) (i j : Nat) : W32 := (l.getD i []).getD j 0
theorem sch_cert (m : Nat → W32) (L : List W32) (h0 : ∀ j, j < 16 → m j = L.getD j 0) (h1 : ∀ i, i < 48 → L.getD (16 + i) 0 = fs1 (L.getD (14 + i) 0) + L.getD (9 + i) 0 + fs0 (L.getD (1 + i) 0) + L.getD i 0) :
    ∀ n, n ≤ 48 → ∀ j, j < 16 + n → sch m n j = L.getD j 0
  | 0, _, j, hj => by
    unfold sch
    rw [if_pos (by omega)]
    exact h0 j (by omega)
  | n + 1, hn, j, hj => by
    have ih := sch_cert m L h0 h1 n (by omega)
    rw [sch]
    by_cases e : j = 16 + n
    · subst e
      rw [upd_at, ih _ (by omega), ih _ (by omega), ih _ (by omega), ih _ (by omega), h1 n (by omega)]
    · rw [upd_ne _ _ _ _ e]
      exact ih j (by omega)
theorem rnd_congr (k w : W32) {v u : Nat → W32} (h : ∀ j, j < 8 → v j = u j) : ∀ j, j < 8 → rnd k w v j = rnd k w u j := by
  intro j hj
  have e1 : one k w v = one k w u := by unfold one; rw [h 7 (by decide), h 4 (by decide), h 5 (by decide), h 6 (by decide)]
  have e2 : two v = two u := by unfold two; rw [h 0 (by decide), h 1 (by decide), h 2 (by decide)]
  unfold rnd
  rw [e1, e2, h 3 (by decide)]
  by_cases h0 : j = 0
  · simp [h0]
  · rw [if_neg h0, if_neg h0, h (j - 1) (by omega)]
theorem rounds_cert (K W v : Nat → W32) (L : List W32) (S : List (List W32)) (hW : ∀ i, i < 64 → W i = L.getD i 0) (h0 : ∀ j, j < 8 → v j = at2 S 0 j)
    (h1 : ∀ i, i < 64 → ∀ j, j < 8 → rnd (K i) (L.getD i 0) (at2 S i) j = at2 S (i + 1) j) : ∀ n, n ≤ 64 → ∀ j, j < 8 → rounds K W v n j = at2 S n j
  | 0, _, j, hj => h0 j hj
  | n + 1, hn, j, hj => by
    have ih := rounds_cert K W v L S hW h0 h1 n (by omega)
    rw [rounds, hW n (by omega), rnd_congr _ _ ih j hj, h1 n (by omega) j hj]
def abc : List UInt8 := [97, 98, 99]
def abcM (i : Nat) : UInt8 := (abc ++ padL 3).getD i 0
set_option maxRecDepth 100000 in
theorem abc_words : ∀ j, j < 16 → mW abcM j = abcW.getD j 0 := by decide +kernel
set_option maxRecDepth 100000 in
theorem abc_sched : ∀ i, i < 48 → abcW.getD (16 + i) 0 = fs1 (abcW.getD (14 + i) 0) + abcW.getD (9 + i) 0 + fs0 (abcW.getD (1 + i) 0) + abcW.getD i 0 := by decide +kernel
set_option maxRecDepth 100000 in
theorem abc_rounds : ∀ i, i < 64 → ∀ j, j < 8 → rnd (Kt i) (abcW.getD i 0) (at2 abcS i) j = at2 abcS (i + 1) j := by decide +kernel
theorem abc_comp (j : Nat) (hj : j < 8) : comp H0 abcM j = H0 j + at2 abcS 64 j := by
  unfold comp
  rw [rounds_cert Kt _ H0 abcW abcS (fun i hi => sch_cert (mW abcM) abcW abc_words abc_sched 48 (Nat.le_refl _) i (by omega)) (by decide +kernel) abc_rounds 64 (Nat.le_refl _) j hj]
theorem abc_sha : shaL abc = outB (comp H0 abcM) := by
  unfold shaL
  have := rh_all (abc ++ padL abc.length) 1 (by decide +kernel)
  rw [this, rh, rh]
  congr 2
  funext i
  rw [Nat.mul_zero, Nat.zero_add]; rfl
theorem lies_marked (w : World) (cs : Array Value) (t : TypeId) (fr : Nat × Nat) (n : Nat) (xs : List Value) (h : cs.toList = xs) (hn : xs.length = n) :
    Lies (w.alloc (.cells cs t fr)) (w.heap.size + 1) 1 (some ⟨w.heap.size, 0, none⟩) n xs := by
  refine ⟨by omega, fun _ => ⟨_, rfl, Nat.lt_succ_self _, fun j hj => ?_⟩⟩
  subst h
  have e : ((⟨w.heap.size, 0, none⟩ : Addr).add j) = ⟨w.heap.size, j, none⟩ := by
    unfold Addr.add; by_cases h0 : j = 0 <;> simp [h0]
  rw [e, cell_of_row _ w.heap.size j cs t fr (heap_alloc_new w _)]
  simp at hj ⊢
theorem abc_at (i : Nat) (hi : i < 32) : shaL abc i = UInt8.ofNat ((H0 (i / 4) + at2 abcS 64 (i / 4)).toNat / 2 ^ (24 - 8 * (i % 4)) % 256) := by
  rw [abc_sha]
  unfold outB
  rw [abc_comp _ (by omega)]
theorem abc0 : bys (shaL abc) 0 = .int .u8 186 := by unfold bys; rw [abc_at 0 (by decide)]; exact congrArg (Value.int .u8) (by decide +kernel)
theorem abc1 : bys (shaL abc) 1 = .int .u8 120 := by unfold bys; rw [abc_at 1 (by decide)]; exact congrArg (Value.int .u8) (by decide +kernel)
theorem abc31 : bys (shaL abc) 31 = .int .u8 173 := by unfold bys; rw [abc_at 31 (by decide)]; exact congrArg (Value.int .u8) (by decide +kernel)
theorem kt63 (w : World) : (Instr.index 32 (.agg (vec 64 (wds Kt))) (.int .i64 63)).run Tryd.prog w = .ok (.int .u32 3329325298) w := by
  have := index64 Kt 63 (by decide) w
  rw [show num (Kt 63) = 3329325298 by decide +kernel] at this
  exact this

set_option maxHeartbeats 1000000 in
set_option maxRecDepth 100000 in
theorem awake_any (w : World) (hT : Tabs w) :
    Calls Tryd.prog 9 #[] w fun e w' => e = .returned (.bool true) ∧ Below w.heap.size w w' := by
  have HT := Lib.hid hT
  clear hT
  have hcv := Lib.run_convert_bytes_const (P := Tryd.prog) w 29 5 #[.int .u8 97, .int .u8 98, .int .u8 99] 3 3 Tryd.underlying29 Tryd.underlying5
  obtain ⟨W1, hW1⟩ : ∃ W1, W1 = (w.alloc (.cells #[.int .u8 97, .int .u8 98, .int .u8 99] 5 (3, 3 + 1))).alloc (.cells #[.slice (some ⟨w.heap.size, 0, none⟩) 3 3] 29) := ⟨_, rfl⟩
  have hsz : W1.heap.size = w.heap.size + 1 + 1 := by rw [hW1]; simp
  have hb1 : Below w.heap.size w W1 := by rw [hW1]; exact ((Below.refl _ _).alloc (Nat.le_refl _) _).alloc (by simp) _
  have hT1 := tabs_below HT.out hb1
  have hP : Parts W1 (some ⟨w.heap.size + 1, 0, none⟩) [(some ⟨w.heap.size, 0, none⟩, 3, abc)] := by
    refine ⟨?_, ?_, ?_⟩
    · have := lies_new (w.alloc (.cells #[.int .u8 97, .int .u8 98, .int .u8 99] 5 (3, 3 + 1))) #[.slice (some ⟨w.heap.size, 0, none⟩) 3 3] 29 1 ([(some ⟨w.heap.size, 0, none⟩, 3, abc)].map partV) rfl rfl
      rw [← hW1] at this
      have e : (w.alloc (.cells #[.int .u8 97, .int .u8 98, .int .u8 99] 5 (3, 3 + 1))).heap.size = w.heap.size + 1 := by simp
      rw [e] at this
      rw [hsz]; exact this
    · intro p hp
      simp only [List.mem_cons, List.not_mem_nil, or_false] at hp
      subst hp
      have := (lies_marked w #[.int .u8 97, .int .u8 98, .int .u8 99] 5 (3, 3 + 1) 3 (u8s abc) rfl rfl).alloc (by simp) (.cells #[.slice (some ⟨w.heap.size, 0, none⟩) 3 3] 29)
      rw [← hW1] at this
      exact this.wide (by rw [hsz]; omega)
    · intro p hp
      simp only [List.mem_cons, List.not_mem_nil, or_false] at hp
      subst hp
      exact Nat.le_refl 3
  have hcat : catAll [((some ⟨w.heap.size, 0, none⟩, 3, abc) : Part)] = abc := by simp [catAll]
  have hS := sum_any [(some ⟨w.heap.size, 0, none⟩, 3, abc)] (some ⟨w.heap.size + 1, 0, none⟩) 1 W1 hP (show 1 ≤ 1000000 by decide) (by rw [hcat]; decide) hT1
  rw [hcat] at hS
  have HS := Lib.hid hS
  have HW := Lib.hid hW1
  have HB := Lib.hid (And.intro hb1 hsz)
  clear hW1 hb1 hsz hT1 hP hcat hS
  go_enter Tryd.func9, Tryd.ntmps9
  go_upto_region 2 with (first
    | (go_at_call 11; rw [← HW.out]; refine HS.out.mono ?_; rintro e w2 ⟨rfl, hd⟩; have HD := Lib.hid hd; clear hd hcv)
    | (refine wl_store rfl 26 _ _ rfl _ rfl _ rfl (run_store_arr (Arr.new w2 _ _ _) (bys (shaL abc)) info26 (bys_one _ _)) ?_))
  obtain ⟨g, hg⟩ : ∃ g, g = w2.heap.size := ⟨_, rfl⟩
  obtain ⟨V, hV⟩ : ∃ V, V = (w2.alloc (.cells (vec 32 (bys zb)) 26)).setRow w2.heap.size (vec 32 (bys (shaL abc))) := ⟨_, rfl⟩
  have hA : Arr V g 26 32 (bys (shaL abc)) := by rw [hV, hg]; exact (Arr.new w2 _ _ _).row _
  have hbV : Below w.heap.size w V := by
    rw [hV]
    have h2 : Below w.heap.size w w2 := HB.out.1.trans (HD.out.mono HB.out.1.size)
    exact below_row (h2.alloc h2.size _) h2.size _
  have c0 := hA.cell (i := 0) (by decide)
  have c1 := hA.cell (i := 1) (by decide)
  have c31 := hA.cell (i := 31) (by decide)
  rw [abc0] at c0
  rw [abc1] at c1
  rw [abc31] at c31
  have hTb := Lib.hid (table_any V (tabs_below HT.out hbV))
  have hix := kt63
  have HBV := Lib.hid hbV
  simp only [Act.put]
  rw [← hV, ← hg]
  clear hV hg hA hbV HS HW HB HD
  go_wp2_with (go_at_call 14; refine hTb.out.mono ?_; rintro e w3 ⟨rfl, hd⟩; have HD3 := Lib.hid hd; clear hd)
  go_ret
  exact ⟨rfl, HBV.out.trans (HD3.out.mono HBV.out.size)⟩
end Go.Proofs.YtjblmnkhdablaaaDoor
