import Derived.Test.YtkaipknkjocfiaaGreatZo38
namespace Go.Proofs.YtkaipknkjocfiaaGreat
open Go.RowKit Go.Maps
theorem codeFirst : CodeFirst := fun A cap l w h1 h2 h3 hf hR => (first_any A cap l h1 ⟨h2, h3⟩ hf w (row_of hR)).mono fun e w' hh => by
 obtain ⟨i, j, b, he, hi, hb⟩ := hh
 exact ⟨i, j, by rw [he, first_clash hi], hb⟩
def cpuS (x : Cf) (n : Nat) : List Lit := (x.gs.take n).flatMap fun t => cpuL t.cpus 32
theorem cpuS_succ (x : Cf) (n : Nat) (hn : n < x.gs.length) : cpuS x (n + 1) = cpuS x n ++ cpuL x.gs[n].cpus 32 := by
 unfold cpuS
 rw [List.take_succ_eq_append_getElem hn, List.flatMap_append]
 simp
theorem all_congr_range {n : Nat} {f g : Nat → Bool} (h : ∀ i, i < n → f i = g i) : (List.range n).all f = (List.range n).all g := by
 rw [Bool.eq_iff_iff, List.all_eq_true, List.all_eq_true]
 exact ⟨fun hh i hi => by rw [← h i (List.mem_range.1 hi)]; exact hh i hi, fun hh i hi => by rw [h i (List.mem_range.1 hi)]; exact hh i hi⟩
theorem bit_test (m j : Nat) : bitS (m : Int) (j : Int) = m.testBit j := by
 unfold bitS
 rw [Nat.testBit_eq_decide_div_mod_eq, Int.toNat_natCast]
 exact decide_eq_decide.2 (by constructor <;> intro h <;> norm_cast at * )
theorem inL_cpuL (m j : Nat) (hj : j < 32) : inL (cpuL (m : Int) 32) (.int .i64 (j : Int)) = m.testBit j := by
 unfold inL cpuL
 rw [Bool.eq_iff_iff, List.any_eq_true]
 constructor
 · rintro ⟨y, hy, hk⟩
   obtain ⟨i, hi, rfl⟩ := List.mem_map.1 hy
   have h2 := (List.mem_filter.1 hi).2
   simp [Lit.sameKey] at hk
   obtain rfl : i = j := by omega
   rw [← bit_test]; exact h2
 · intro h
   exact ⟨_, List.mem_map.2 ⟨j, List.mem_filter.2 ⟨List.mem_range.2 hj, by rw [bit_test]; exact h⟩, rfl⟩, by simp [Lit.sameKey]⟩
theorem inL_flat {α : Type} (l : List α) (f : α → List Lit) (k : Lit) : inL (l.flatMap f) k = l.any fun t => inL (f t) k := by
 induction l with
 | nil => rfl
 | cons t l ih => rw [List.flatMap_cons, inL_append, ih, List.any_cons]
theorem and_zero (m k : Nat) : (m &&& k = 0) ↔ ∀ j, m.testBit j = true → k.testBit j = false := by
 constructor
 · intro h j hj
   have := congrArg (fun z => z.testBit j) h
   simp only [Nat.testBit_and, Nat.zero_testBit, hj, Bool.true_and] at this
   exact this
 · intro h
   refine Nat.eq_of_testBit_eq fun j => ?_
   rw [Nat.testBit_and, Nat.zero_testBit]
   cases hj : m.testBit j with
   | false => rfl
   | true => rw [h j hj]; rfl
theorem lt_two_pow_iff (m c : Nat) : m / 2 ^ c = 0 ↔ ∀ j, m.testBit j = true → j < c := by
 rw [Nat.div_eq_zero_iff_lt (Nat.two_pow_pos c)]
 constructor
 · intro h j hj
   rcases Nat.lt_or_ge j c with h1 | h1
   · exact h1
   · have := Nat.testBit_lt_two_pow (Nat.lt_of_lt_of_le h (Nat.pow_le_pow_right (by decide) h1))
     rw [this] at hj
     cases hj
 · intro h
   refine Nat.lt_pow_two_of_testBit m fun j hj => ?_
   cases hb : m.testBit j with
   | false => rfl
   | true => have := h j hb; omega
theorem cpus_is {b : Bd} {x : Cf} (hb : CfB x) (hc : 0 ≤ b.cpus ∧ b.cpus ≤ 32) {n : Nat} (hn : n < x.gs.length) : cpuK x.gs[n].cpus b.cpus (cpuS x n) = cpusB b x n := by
 obtain ⟨c, hc1⟩ := Int.eq_ofNat_of_zero_le hc.1
 have hm : ∀ i (hi : i < x.gs.length), ∃ m : Nat, x.gs[i].cpus = (m : Int) ∧ m < 4294967296 ∧ maskN x.gs[i] = m := fun i hi => by
   have := (hb.gs _ (List.getElem_mem hi)).cpus
   unfold u32B at this
   exact ⟨x.gs[i].cpus.toNat, by omega, by omega, rfl⟩
 obtain ⟨m, hm1, hm2, hm3⟩ := hm n hn
 unfold cpusB
 rw [List.getElem?_eq_getElem hn]
 simp only
 rw [hm3, hm1, hc1, show ((c : Int)).toNat = c from rfl]
 unfold cpuK
 have hmz : (!((m : Int) == 0)) = !(m == 0) := by
   congr 1
   exact Bool.eq_iff_iff.2 (by simp)
 rw [hmz]
 have h32 : ∀ j, m.testBit j = true → j < 32 := (lt_two_pow_iff m 32).1 (Nat.div_eq_of_lt (by omega))
 have hin : ∀ j : Nat, j < 32 → (inL (cpuS x n) (.int .i64 (j : Int)) = true ↔ ∃ i, ∃ hi : i < x.gs.length, i < n ∧ (maskN x.gs[i]).testBit j = true) := fun j hj => by
   unfold cpuS
   rw [inL_flat, List.any_eq_true]
   constructor
   · rintro ⟨t, ht, hk⟩
     obtain ⟨i, hi, rfl⟩ := List.mem_take_iff_getElem.1 ht
     obtain ⟨mi, h1, h2, h3⟩ := hm i (by omega)
     rw [h1, inL_cpuL mi j hj] at hk
     exact ⟨i, by omega, by omega, by rw [h3]; exact hk⟩
   · rintro ⟨i, hi, hin, hk⟩
     obtain ⟨mi, h1, h2, h3⟩ := hm i hi
     refine ⟨x.gs[i], List.mem_take_iff_getElem.2 ⟨i, by omega, rfl⟩, ?_⟩
     rw [h1, inL_cpuL mi j hj, ← h3]
     exact hk
 rw [Bool.eq_iff_iff]
 simp only [Bool.and_eq_true, List.all_eq_true, List.mem_range, decide_eq_true_eq, Bool.not_eq_true', beq_iff_eq]
 have hat : ∀ j : Nat, j < 32 → (cpuAt (m : Int) (c : Int) (cpuS x n) j = true ↔ (m.testBit j = true → j < c ∧ inL (cpuS x n) (.int .i64 (j : Int)) = false)) := fun j hj => by
   unfold cpuAt
   rw [bit_test]
   cases m.testBit j with
   | false => simp
   | true =>
     simp only [Bool.not_true, Bool.false_or, Bool.and_eq_true, decide_eq_true_eq, Bool.not_eq_true']
     constructor
     · rintro ⟨h1, h2⟩ _
       exact ⟨by omega, h2⟩
     · intro h
       obtain ⟨h1, h2⟩ := h trivial
       exact ⟨by omega, h2⟩
 constructor
 · rintro ⟨h1, h2⟩
   refine ⟨⟨h2, (lt_two_pow_iff m c).2 fun j hj => ((hat j (h32 j hj)).1 (h1 j (h32 j hj)) hj).1⟩, fun i hi => ?_⟩
   have hil : i < x.gs.length := by omega
   rw [List.getElem?_eq_getElem hil, Option.getD_some, and_zero]
   intro j hj
   have := ((hat j (h32 j hj)).1 (h1 j (h32 j hj)) hj).2
   rw [← Bool.not_eq_true, hin j (h32 j hj)] at this
   rw [← Bool.not_eq_true]
   exact fun hb => this ⟨i, hil, hi, hb⟩
 · rintro ⟨⟨h1, h2⟩, h3⟩
   refine ⟨fun j hj => (hat j hj).2 fun hb => ⟨(lt_two_pow_iff m c).1 h2 j hb, ?_⟩, h1⟩
   rw [← Bool.not_eq_true, hin j hj]
   rintro ⟨i, hi, hil, hk⟩
   have := h3 i hil
   rw [List.getElem?_eq_getElem hi, Option.getD_some, and_zero] at this
   rw [this j hb] at hk
   cases hk
theorem once_is (ls : List (List Int)) (g i : Nat) (v : Int) (hg : g < ls.length) : onceB ls g i v = !((ls.take g).flatten ++ (ls.getD g []).take i).contains v := by
 unfold onceB
 rw [Bool.eq_iff_iff, List.all_eq_true]
 simp only [List.mem_range, List.all_eq_true, Bool.or_eq_true, Bool.and_eq_true, decide_eq_true_eq, Bool.not_eq_true', beq_eq_false_iff_ne, ne_eq]
 rw [← Bool.not_eq_true, List.contains_iff_mem, List.mem_append, not_or]
 constructor
 · intro h
   constructor
   · intro hm
     obtain ⟨l, hl, hv⟩ := List.mem_flatten.1 hm
     obtain ⟨k, hk, rfl⟩ := List.mem_take_iff_getElem.1 hl
     obtain ⟨j, hj, rfl⟩ := List.getElem_of_mem hv
     have hkl : k < ls.length := by omega
     have := h k (by omega) j (by rw [List.getD_eq_getElem?_getD, List.getElem?_eq_getElem hkl, Option.getD_some]; exact hj)
     rcases this with ⟨h1, _⟩ | h1
     · omega
     · apply h1
       rw [List.getD_eq_getElem?_getD, List.getElem?_eq_getElem hkl, Option.getD_some, List.getElem?_eq_getElem hj]
   · intro hm
     obtain ⟨j, hj, hv⟩ := List.mem_take_iff_getElem.1 hm
     have hjl : j < (ls.getD g []).length := by omega
     rcases h g (by omega) j hjl with ⟨_, h1⟩ | h1
     · omega
     · apply h1
       rw [List.getElem?_eq_getElem hjl, hv]
 · rintro ⟨h1, h2⟩ k hk j hj
   by_cases hkg : k = g
   · subst hkg
     rcases Nat.lt_or_ge j i with h3 | h3
     · right
       intro e
       apply h2
       rw [List.getElem?_eq_getElem hj] at e
       injection e with e
       exact List.mem_take_iff_getElem.2 ⟨j, by omega, e⟩
     · exact .inl ⟨rfl, h3⟩
   · right
     intro e
     apply h1
     have hkl : k < ls.length := by omega
     rw [List.getD_eq_getElem?_getD, List.getElem?_eq_getElem hkl, Option.getD_some] at hj e
     rw [List.getElem?_eq_getElem hj] at e
     injection e with e
     exact List.mem_flatten.2 ⟨ls[k], List.mem_take_iff_getElem.2 ⟨k, by omega, rfl⟩, by rw [← e]; exact List.getElem_mem hj⟩
def irqN (x : Cf) (n : Nat) : List Lit := (x.gs.take n).flatMap fun t => t.irqs.map fun q => Lit.int .i64 q.number
def strN (x : Cf) (n : Nat) : List Lit := (x.gs.take n).flatMap fun t => t.strs.map (Lit.int .u32)
theorem irqN_succ (x : Cf) (n : Nat) (hn : n < x.gs.length) : irqN x (n + 1) = irqN x n ++ x.gs[n].irqs.map fun q => Lit.int .i64 q.number := by
 unfold irqN
 rw [List.take_succ_eq_append_getElem hn, List.flatMap_append]
 simp
theorem strN_succ (x : Cf) (n : Nat) (hn : n < x.gs.length) : strN x (n + 1) = strN x n ++ x.gs[n].strs.map (Lit.int .u32) := by
 unfold strN
 rw [List.take_succ_eq_append_getElem hn, List.flatMap_append]
 simp
def irqT (x : Cf) (n : Nat) (t : Gs) (i : Nat) : List Lit := irqN x n ++ (t.irqs.take i).map fun q => Lit.int .i64 q.number
def strT (x : Cf) (n : Nat) (t : Gs) (i : Nat) : List Lit := strN x n ++ (t.strs.take i).map (Lit.int .u32)
theorem irqT_succ (x : Cf) (n : Nat) (t : Gs) (i : Nat) (hi : i < t.irqs.length) : irqT x n t (i + 1) = irqT x n t i ++ [.int .i64 t.irqs[i].number] := by
 unfold irqT
 rw [List.take_succ_eq_append_getElem hi, List.map_append, List.append_assoc]
 rfl
theorem strT_succ (x : Cf) (n : Nat) (t : Gs) (i : Nat) (hi : i < t.strs.length) : strT x n t (i + 1) = strT x n t i ++ [.int .u32 t.strs[i]] := by
 unfold strT
 rw [List.take_succ_eq_append_getElem hi, List.map_append, List.append_assoc]
 rfl
theorem irqT_all (x : Cf) (n : Nat) (hn : n < x.gs.length) : irqT x n x.gs[n] x.gs[n].irqs.length = irqN x (n + 1) := by
 unfold irqT
 rw [List.take_length, irqN_succ x n hn]
theorem strT_all (x : Cf) (n : Nat) (hn : n < x.gs.length) : strT x n x.gs[n] x.gs[n].strs.length = strN x (n + 1) := by
 unfold strT
 rw [List.take_length, strN_succ x n hn]
theorem flat_map_map {α β : Type} (k : β → Lit) (f : α → List β) (l : List α) : (l.flatMap fun t => (f t).map k) = ((l.map f).flatten).map k := by
 induction l with
 | nil => rfl
 | cons t l ih => rw [List.flatMap_cons, ih, List.map_cons, List.flatten_cons, List.map_append]
theorem irq_once (x : Cf) (n i : Nat) (v : Int) (hn : n < x.gs.length) : (!inL (irqT x n x.gs[n] i) (.int .i64 v)) = onceB (x.gs.map fun u => u.irqs.map Ir.number) n i v := by
 rw [once_is _ _ _ _ (by rw [List.length_map]; exact hn)]
 congr 1
 have e : irqT x n x.gs[n] i = (((x.gs.map fun u => u.irqs.map Ir.number).take n).flatten ++ ((x.gs.map fun u => u.irqs.map Ir.number).getD n []).take i).map (Lit.int .i64) := by
  unfold irqT irqN
  rw [List.map_append, List.getD_eq_getElem?_getD, List.getElem?_map, List.getElem?_eq_getElem hn, Option.map_some, Option.getD_some, ← List.map_take, ← List.map_take, List.map_map]
  congr 1
  rw [← flat_map_map]
  congr 1
  funext t
  rw [List.map_map]
  rfl
 rw [e, inL_int]
theorem str_once (x : Cf) (n i : Nat) (v : Int) (hn : n < x.gs.length) : (!inL (strT x n x.gs[n] i) (.int .u32 v)) = onceB (x.gs.map Gs.strs) n i v := by
 rw [once_is _ _ _ _ (by rw [List.length_map]; exact hn)]
 congr 1
 have e : strT x n x.gs[n] i = (((x.gs.map Gs.strs).take n).flatten ++ ((x.gs.map Gs.strs).getD n []).take i).map (Lit.int .u32) := by
  unfold strT strN
  rw [List.map_append, List.getD_eq_getElem?_getD, List.getElem?_map, List.getElem?_eq_getElem hn, Option.map_some, Option.getD_some, ← List.map_take]
  congr 1
  rw [← flat_map_map]
 rw [e, inL_int]
def irqR (b : Bd) (x : Cf) (n : Nat) (t : Gs) (i : Nat) : Bool := match t.irqs[i]? with
 | none => true
 | some q => irqK b t q && !inL (irqT x n t i) (.int .i64 q.number)
def strR (b : Bd) (x : Cf) (n : Nat) (t : Gs) (i : Nat) : Bool := match t.strs[i]? with
 | none => true
 | some q => decide (q < b.strs) && !inL (strT x n t i) (.int .u32 q)
theorem irqs_is {b : Bd} {x : Cf} (hb : CfB x) {n : Nat} (hn : n < x.gs.length) (hp : ∀ q ∈ x.gs[n].irqs, 0 ≤ q.cpu) : irqsB b x n x.gs[n] = (List.range x.gs[n].irqs.length).all (irqR b x n x.gs[n]) := by
 have hc := (hb.gs _ (List.getElem_mem hn)).cpus
 unfold u32B at hc
 unfold irqsB
 refine all_congr_range fun i hi => ?_
 unfold irqR
 rw [List.getElem?_eq_getElem hi]
 simp only
 rw [irq_is hc (hp _ (List.getElem_mem hi)), irq_once x n i _ hn]
theorem strs_is {b : Bd} {x : Cf} {n : Nat} (hn : n < x.gs.length) : strsB b x n x.gs[n] = (List.range x.gs[n].strs.length).all (strR b x n x.gs[n]) := by
 unfold strsB
 refine all_congr_range fun i hi => ?_
 unfold strR
 rw [List.getElem?_eq_getElem hi]
 simp only
 rw [str_once x n i _ hn]
def memS (x : Cf) (n : Nat) : List Sp := (List.range n).flatMap fun i : Nat => physG x (i : Int)
theorem memS_succ (x : Cf) (n : Nat) : memS x (n + 1) = memS x n ++ physG x (n : Int) := by
 unfold memS
 rw [List.range_succ, List.flatMap_append]
 simp
def ApartS (l : List Sp) : Prop := l.Pairwise fun x y => overlap x y = false
theorem owned_iff (x : Cf) (n : Nat) : ownedB x n = true ↔ ApartS (physG x (n : Int)) ∧ ∀ i, i < n → ∀ s ∈ physG x (i : Int), ∀ t ∈ physG x (n : Int), overlap s t = false := by
 unfold ownedB
 simp only [Bool.and_eq_true, Bool.not_eq_true', List.all_eq_true, List.mem_range]
 rw [clashB_false]
 unfold olapsB
 constructor
 · rintro ⟨h1, h2⟩
   refine ⟨h1, fun i hi s hs t ht => ?_⟩
   obtain ⟨j, hj, rfl⟩ := List.getElem_of_mem ht
   have := h2 i hi j hj
   rw [← Bool.not_eq_true, List.any_eq_true] at this
   rw [overlap_sym, ← Bool.not_eq_true]
   intro ho
   apply this
   refine ⟨s, hs, ?_⟩
   rw [List.getD_eq_getElem?_getD, List.getElem?_eq_getElem hj, Option.getD_some]
   exact ho
 · rintro ⟨h1, h2⟩
   refine ⟨h1, fun i hi j hj => ?_⟩
   rw [← Bool.not_eq_true, List.any_eq_true]
   rintro ⟨s, hs, ho⟩
   rw [List.getD_eq_getElem?_getD, List.getElem?_eq_getElem hj, Option.getD_some, overlap_sym] at ho
   rw [h2 i hi s hs _ (List.getElem_mem hj)] at ho
   cases ho
theorem mem_in {x : Cf} {n : Nat} {s : Sp} : s ∈ memS x n ↔ ∃ i, i < n ∧ s ∈ physG x (i : Int) := by
 unfold memS
 simp [List.mem_flatMap]
theorem mem_apart {x : Cf} : ∀ n, (∀ i, i < n → ownedB x i = true) → ApartS (memS x n)
 | 0, _ => List.Pairwise.nil
 | n + 1, h => by
  have hn := (owned_iff x n).1 (h n (by omega))
  rw [memS_succ]
  refine List.pairwise_append.2 ⟨mem_apart n fun i hi => h i (by omega), hn.1, fun s hs t ht => ?_⟩
  obtain ⟨i, hi, hsi⟩ := mem_in.1 hs
  exact hn.2 i hi s hsi t ht
theorem own_is {x : Cf} {n : Nat} (h : ApartS (memS x n)) : (!clashB (memS x n ++ physG x (n : Int))) = ownedB x n := by
 rw [Bool.eq_iff_iff, owned_iff, Bool.not_eq_true', clashB_false]
 constructor
 · intro hp
   obtain ⟨_, h2, h3⟩ := List.pairwise_append.1 hp
   exact ⟨h2, fun i hi s hs t ht => h3 s (mem_in.2 ⟨i, hi, hs⟩) t ht⟩
 · rintro ⟨h1, h2⟩
   refine List.pairwise_append.2 ⟨h, h1, fun s hs t ht => ?_⟩
   obtain ⟨i, hi, hsi⟩ := mem_in.1 hs
   exact h2 i hi s hsi t ht
def memC (x : Cf) (k : Nat) : List Sp := memS x x.gs.length ++ (x.chs.take k).map spC
theorem memC_succ (x : Cf) (k : Nat) (hk : k < x.chs.length) : memC x (k + 1) = memC x k ++ [spC x.chs[k]] := by
 unfold memC
 rw [List.take_succ_eq_append_getElem hk, List.map_append, List.append_assoc]
 rfl
def chanK (b : Bd) (x : Cf) (k : Nat) (s : Sp) : Bool := paged s && (oursB b s && !clashB (memC x k ++ [s]))
theorem apart_snoc {l : List Sp} {s : Sp} (h : ApartS l) : (!clashB (l ++ [s])) = l.all fun o => !overlap o s := by
 rw [Bool.eq_iff_iff, Bool.not_eq_true', clashB_false, List.all_eq_true]
 constructor
 · intro hp
   obtain ⟨_, _, h3⟩ := List.pairwise_append.1 hp
   intro o ho
   rw [h3 o ho s (List.mem_singleton.2 rfl)]; rfl
 · intro hh
   refine List.pairwise_append.2 ⟨h, List.pairwise_singleton _ _, fun o ho t ht => ?_⟩
   rw [List.mem_singleton.1 ht]
   have := hh o ho
   simpa using this
theorem memC_apart {b : Bd} {x : Cf} (h : ApartS (memS x x.gs.length)) : ∀ k, k ≤ x.chs.length → (∀ i (hi : i < x.chs.length), i < k → chanK b x i (spC x.chs[i]) = true) → ApartS (memC x k)
 | 0, _, _ => by unfold memC; simpa using h
 | k + 1, hk, hh => by
  have ih := memC_apart (b := b) h k (by omega) fun i hi hlt => hh i hi (by omega)
  have hc := hh k (by omega) (by omega)
  unfold chanK at hc
  simp only [Bool.and_eq_true] at hc
  rw [memC_succ x k (by omega)]
  have := hc.2.2
  rw [Bool.not_eq_true', clashB_false] at this
  exact this
theorem chan_is {b : Bd} {x : Cf} (hd : ∀ t ∈ x.gs, t.devs.all (devB b) = true) (k : Nat) (hk : k < x.chs.length) (ha : ApartS (memC x k)) : chanK b x k (spC x.chs[k]) = chanB b x k x.chs[k] := by
 unfold chanK chanB
 rw [apart_snoc ha]
 obtain ⟨s, hs⟩ : ∃ s, s = spC x.chs[k] := ⟨_, rfl⟩
 rw [← hs]
 unfold oursB
 cases hp : paged s with
 | false => rfl
 | true =>
  cases hw : within s b.r with
  | false => rfl
  | true =>
   cases ho : overlap s b.l with
   | true => rfl
   | false =>
    simp only [Bool.true_and, Bool.not_false]
    rw [Bool.eq_iff_iff]
    simp only [List.all_eq_true, Bool.and_eq_true, Bool.not_eq_true']
    constructor
    · intro h
      refine ⟨fun t ht v hv => ?_, fun u hu => ?_⟩
      · obtain ⟨i, hi, rfl⟩ := List.getElem_of_mem ht
        rw [overlap_sym]
        refine h _ (List.mem_append.2 (.inl (mem_in.2 ⟨i, hi, ?_⟩)))
        unfold physG
        rw [guestAt_yes hi]
        simp only
        rw [physP_is]
        exact List.mem_append.2 (.inl (List.mem_map.2 ⟨v, hv, rfl⟩))
      · rw [overlap_sym]
        exact h _ (List.mem_append.2 (.inr (List.mem_map.2 ⟨u, hu, rfl⟩)))
    · rintro ⟨h1, h2⟩ o ho2
      rw [overlap_sym]
      rcases List.mem_append.1 ho2 with h3 | h3
      · obtain ⟨i, hi, hsi⟩ := mem_in.1 h3
        rcases phys_mem hi hsi with ⟨y, hy, rfl⟩ | ⟨y, hy, rfl⟩
        · exact h1 _ (List.getElem_mem hi) y hy
        · have := List.all_eq_true.1 (hd _ (List.getElem_mem hi)) y hy
          unfold devB at this
          simp only [Bool.and_eq_true, Bool.not_eq_true'] at this
          rw [← Bool.not_eq_true]
          intro hov
          rw [overlap_sym] at hov
          have h4 := overlap_in hov hw
          rw [this.2.2] at h4
          cases h4
      · obtain ⟨u, hu, rfl⟩ := List.mem_map.1 h3
        exact h2 u hu
end Go.Proofs.YtkaipknkjocfiaaGreat
