/- The walk of XmssSigns. -/
import Derived.Test.YtfeiplaiekbdkaaGreatDoorXver
import Derived.Test.YtfeiplaiekbdkaaGreatDoorXrmake
import Derived.Test.YtfeiplaiekbdkaaGreatDoorXsign
import Derived.Test.YtfeiplaiekbdkaaGreatDoorWy
import Derived.Test.YtfeiplaiekbdkaaGreatDoorWx
namespace Go.Proofs.YtfeiplaiekbdkaaGreatDoor
open Go.RowKit
attribute [local go_sem ↓ high] zeroV26 zeroKey

/-- An operation that looks at the world, its guard met or none. -/
theorem wl_execZ {P : Program} {ops : Array Oper} {Q : Exit → Act → World → Prop} {a : Act} {w : World} {rest : List Oper} {o : Oper} {v : Value} (hw : Region.wanted o (yielded ops a.tmps) = true)
    (he : (execOp a.eval o).run P w = .ok (.value v) w) (h : wpList P ops Q rest (a.put o.dst v) w) : wpList P ops Q (o :: rest) a w :=
  wpList_step fun K hK => by
    simp only [hw, if_true]
    unfold Oper.wp
    rw [he]
    exact hK _ _ h
theorem exec_neqKey {o : Oper} {a : Act} (x y : Operand) (t : TypeId) (ho : o.op = .binOp .neq 33 x y t) (oid : Int) (root seed : Nd) (hx : a.eval x = .agg (vec 65 (keyF oid root seed))) (hy : a.eval y = .agg (vec 65 (keyF oid root seed))) (w : World) :
    (execOp a.eval o).run Tryz.prog w = .ok (.value (.bool false)) w := by
  have hg : (eqGuard .neq 33 x y (.agg (vec 65 (keyF oid root seed))) (.agg (vec 65 (keyF oid root seed)))).run Tryz.prog w = .ok () w := run_eqGuard_agg w .neq 33 x y _ _ (by kernel_rfl)
  have he : (binOp .neq 33 (.agg (vec 65 (keyF oid root seed))) (.agg (vec 65 (keyF oid root seed)))).run Tryz.prog w = .ok (.bool false) w := by
    rw [run_neq_struct, eqlKey]; rfl
  unfold execOp
  simp only [ho, hx, hy, Sem.run_bind, Sem.run_pure, hg, he, Result.andThen_ok]
theorem publicD_endsZ (secret seed m : Nat → UInt8) (idx : Nat) : publicD (endsF secret seed idx (digN m)) m seed idx = endsF secret seed idx d15 := by
  unfold publicD
  rw [if_pos (endsF_length _ _ _ _), public_ends]
  rfl
theorem nodeEq_self (f : Nd) : nodeEq f f = true := (nodeEq_iff f f).2 fun _ _ => rfl
theorem psE_good {oid idx n2 : Nat} (h : psE oid idx 67 n2 = 0) : isO oid = true ∧ idx < 2 ^ hgtO oid ∧ n2 = hgtO oid := by
  unfold psE at h
  cases hi : isO oid with
  | false => rw [hi] at h; cases h
  | true =>
    rw [hi] at h
    cases hq : psOk oid idx 67 n2 with
    | false => rw [hq] at h; cases h
    | true =>
      unfold psOk plcd at hq
      simp only [Bool.and_eq_true, decide_eq_true_eq] at hq
      exact ⟨rfl, hq.1.1, hq.1.2⟩
/-- What is signed is taken. -/
theorem ver_signed (oid : Nat) (secret seed : Nd) (idx : Nat) (auth : List Nd) (rr : Nd) (msg : List UInt8) (hoid : oid < 4294967296) (hidx : idx < 4294967296) (h : psE oid idx 67 auth.length = 0) :
    VerAns 6 (keyL oid (mkR oid secret seed idx auth) seed) (sigL idx rr (endsF secret seed idx (digN (msgF rr (mkR oid secret seed idx auth) idx msg))) auth) msg 0 := by
  obtain ⟨his, hi, hau⟩ := psE_good h
  obtain ⟨R, hR⟩ : ∃ R, R = mkR oid secret seed idx auth := ⟨_, rfl⟩
  obtain ⟨L, hL⟩ : ∃ L, L = endsF secret seed idx (digN (msgF rr R idx msg)) := ⟨_, rfl⟩
  rw [← hR, ← hL]
  have hL67 : L.length = 67 := by rw [hL, endsF_length]
  have hk : KeyBoth 13 (keyL oid R seed) oid R seed 0 := fun A c W hc hl => by
    rw [keyL_length] at hc hl ⊢
    have := keyOf_yes A c oid R seed W hoid hc hl
    have e1 : keyR oid R seed = keyF (oid : Int) R seed := by unfold keyR; rw [his]; rfl
    have e2 : keyE oid = 0 := by unfold keyE; rw [his]; rfl
    rw [e1, e2] at this
    exact this
  have hv := ver_any (keyL oid R seed) (sigL idx rr L auth) msg oid R seed 0 hk idx rr L auth 0 hidx ((sigOf_cd oid idx rr L auth hoid his hidx hL67 hau).2 hi)
  have e : rootD (leafD (publicD L (msgF rr R idx msg) seed idx) seed idx) idx auth seed = R := by rw [hL, publicD_endsZ, hR]; rfl
  rw [e, nodeEq_self] at hv
  exact hv
theorem psL_good {oid idx : Nat} {rr : Nd} {L auth : List Nd} (hL : L.length = 67) (h : psE oid idx 67 auth.length = 0) : psL oid idx rr L auth = sigL idx rr L auth := by
  obtain ⟨his, hi, hau⟩ := psE_good h
  unfold psL
  rw [his, Bool.true_and, if_pos]
  unfold psOk plcd
  simp only [Bool.and_eq_true, decide_eq_true_eq]
  exact ⟨⟨hi, hau⟩, hL⟩
end Go.Proofs.YtfeiplaiekbdkaaGreatDoor
