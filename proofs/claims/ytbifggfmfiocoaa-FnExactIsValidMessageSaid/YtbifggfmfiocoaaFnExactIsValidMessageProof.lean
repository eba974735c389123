/- For every input that fits, the law function of IsValidMessage returns true, and each argument reads afterwards as before. Conditions: none beyond those of the form. -/
import Derived.Test.YtbifggfmfiocoaaRows
import Derived.Test.YtbifggfmfiocoaaKit
import Derived.Test.YtbifggfmfiocoaaLIsValidMessage
import Derived.Lib.SmallJoins
import Derived.Test.YtbifggfmfiocoaaOpn
import Derived.WalkKit
import Derived.ProofKit
import Derived.OpenShut
import Derived.ShutString
import Derived.ChangeOld
import Derived.Below
import Derived.Carry
namespace Go.Proofs.Ytbifggfmfiocoaa.fnExactIsValidMessage
open Go.ChangeShapes Go.WideShapes Go.ChangeAt Go.RowKit
open Go.ChangeMaps (open_string shut_string)
set_option linter.unusedVariables false

theorem own : ownKnob Try.prog.godebug = none := by kernel_rfl
theorem laidOut : laidOutB Try.prog = true := by kernel_rfl

theorem list4 {l : List Value} (h : l.length = 4) : ∃ c0 c1 c2 c3, l = [c0, c1, c2, c3] := by
  match l, h with
  | [c0, c1, c2, c3], _ => exact ⟨c0, c1, c2, c3, rfl⟩
set_option maxRecDepth 100000 in
set_option maxHeartbeats 2000000 in
theorem lifted (os : Os) (started : os.Started) (H : Type) (enc : TypeId × Value → H) :
    ReturnsInHanded {} Try.checked os 5 .any (Rows.fnExactIsValidMessageSpec.pre6 enc Try.prog Try.f5 Rows.fnExactIsValidMessageRow.domain false) (Rows.fnExactIsValidMessageSpec.post enc Try.prog Try.f5 false true false false) := by
  refine returnsInHanded_of_change (C := Try.checked) own started (by kernel_rfl) Try.func5
    (ChangeSpec.witness6 (enc := enc) (C := Try.checked) false ⟨#[], #[.agg #[.int .i64 0, .int .i64 0, .int .i64 0, .slice none 0 0]], []⟩ 8 (by kernel_rfl) (by kernel_rfl) (by kernel_rfl) (by kernel_rfl)) ?_
  intro W base args ds gs before hval0 hW hcnd _
  have hval : ∀ (j : Nat) t v, Try.f5.params[j]? = some t → args[j]? = some v → Value.okWide Try.prog W .any base t v := hval0
  have hW' := hW
  obtain ⟨p, q, hA0, hV, rfl, hfz, hnd⟩ := hW
  have hA : DataW.TrodAll enc Try.prog W 0 (fun _ => true) true Try.f5.params.toList args.toList ds p := hA0
  rw [Try.params5] at hA hval
  obtain ⟨v0, vs0, d0, ds0, p0, q0, hargs, rfl, rfl, h0, r0⟩ := trodAll_cons hA
  obtain ⟨rfl, rfl, rfl⟩ := trodAll_nil r0
  obtain rfl : args = #[v0] := by cases args; simp_all
  obtain ⟨rfl, rfl⟩ := trodVars_none hV
  have k0 := h0
  have lt0 : ∀ x ∈ p0, x.block < W.heap.size := by obtain ⟨m, hm⟩ := k0; exact DataW.trod_lt m _ _ _ hm
  obtain ⟨a0_0, a0_1, a0_2, a0_3, len0_3, cap0_3, z0_3, rfl, w0_0, w0_1, w0_2, w0_3⟩ : ∃ (a0_0 : Int) (a0_1 : Int) (a0_2 : Int) (a0_3 : Option Addr) (len0_3 cap0_3 : Nat) (z0_3 : List Int), v0 = .agg #[.int .i64 a0_0, .int .i64 a0_1, .int .i64 a0_2, .slice a0_3 len0_3 cap0_3] ∧ (Lit.int .i64 a0_0).wf = true ∧ (Lit.int .i64 a0_1).wf = true ∧ (Lit.int .i64 a0_2).wf = true ∧ kit.IsRow .u8 W a0_3 len0_3 cap0_3 z0_3 := by
    obtain ⟨cs, n, rfl, hl, hf⟩ := opn.open_fields Try.underlying44 (by kernel_rfl) (by kernel_rfl) (hval 0 44 v0 rfl rfl) h0 4 rfl
    obtain ⟨c0, c1, c2, c3, rfl⟩ := list4 hl
    obtain ⟨c, y, e, g0⟩ := hf 0 _ rfl
    obtain rfl : c0 = c := by simpa using e
    obtain ⟨b0, e0, _, u0⟩ := DataW.trod_int Try.underlying3 g0
    obtain rfl : c0 = .int .i64 b0 := by simpa using e0
    obtain ⟨c, y, e, g1⟩ := hf 1 _ rfl
    obtain rfl : c1 = c := by simpa using e
    obtain ⟨b1, e1, _, u1⟩ := DataW.trod_int Try.underlying3 g1
    obtain rfl : c1 = .int .i64 b1 := by simpa using e1
    obtain ⟨c, y, e, g2⟩ := hf 2 _ rfl
    obtain rfl : c2 = c := by simpa using e
    obtain ⟨b2, e2, _, u2⟩ := DataW.trod_int Try.underlying3 g2
    obtain rfl : c2 = .int .i64 b2 := by simpa using e2
    obtain ⟨c, y, e, g3⟩ := hf 3 _ rfl
    obtain rfl : c3 = c := by simpa using e
    obtain ⟨A3, L3, C3, Z3, rfl, u3⟩ : ∃ A0 L0 C0 Z0, c3 = .slice A0 L0 C0 ∧ kit.IsRow .u8 W A0 L0 C0 Z0 := by
      rcases open_ints Try.underlying22 Try.underlying5 (by kernel_rfl) g3 with ⟨hcs, _⟩ | ⟨x, l, c, zs, hcs, _, hl2, hm, hz, _, hcell, hwz⟩
      · simp at hcs; subst hcs
        exact ⟨none, 0, 0, [], rfl, .inl ⟨rfl, rfl, rfl, rfl⟩⟩
      · simp at hcs; subst hcs
        exact ⟨some x, l, c, zs, rfl, .inr ⟨_, rfl, hl2, hm, by simpa using hz, hcell, hwz⟩⟩
    exact ⟨b0, b1, b2, A3, L3, C3, Z3, rfl, u0, u1, u2, u3⟩
  clear hA0 hval0
  refine (xExactIsValidMessage.walkA a0_0 a0_1 a0_2 a0_3 len0_3 cap0_3 z0_3 _ w0_3).mono fun e W1 ⟨he, bel⟩ => ?_
  subst he
  exact ⟨_, rfl, _, _, _, [], _, [], hW', trodAll_mk1 (shut_bool Try.underlying4 _), (trodAll_cons_mk (Below.trod laidOut (by kernel_rfl) (of_decide_eq_true (by kernel_rfl)) k0 bel lt0) trodAll_mk0), rfl, bel.frame _, fun h => by cases h⟩

theorem row : Rows.fnExactIsValidMessageRow.holds Try.pinned (OpenSpec.ofChange Rows.fnExactIsValidMessageSpec) :=
  OpenClaim.holds_of_wide 5 Try.f5 rfl rfl rfl rfl rfl rfl rfl ⟨rfl, rfl, rfl, rfl, rfl⟩ rfl rfl rfl rfl rfl (by kernel_rfl) Try.func5 (by kernel_rfl)
    (of_decide_eq_true (by kernel_rfl)) (by unfold Func.isWrapper; first | (rw [if_pos (by decide +kernel)]; kernel_rfl) | (rw [if_neg (by decide +kernel)]; exact ⟨rfl, rfl⟩))
    (fun os started H enc _ => lifted os started H enc)

theorem proved : Rows.FnExactIsValidMessageSaid := row
#print axioms proved
end Go.Proofs.Ytbifggfmfiocoaa.fnExactIsValidMessage
