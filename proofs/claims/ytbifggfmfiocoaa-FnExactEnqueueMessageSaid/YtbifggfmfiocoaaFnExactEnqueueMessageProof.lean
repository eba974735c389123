/- For every input that fits, the law function of EnqueueMessage returns true, and each argument reads afterwards as before. Conditions: none beyond those of the form. -/
import Derived.Test.YtbifggfmfiocoaaRows
import Derived.Test.YtbifggfmfiocoaaKit
import Derived.Test.YtbifggfmfiocoaaLEnqueueMessage
import Derived.Test.YtbifggfmfiocoaaOpm
import Derived.Lib.SmallJoins
import Derived.Test.YtbifggfmfiocoaaOpn
import Derived.WalkKit
import Derived.ProofKit
import Derived.OpenShut
import Derived.ShutString
import Derived.ChangeOld
import Derived.Below
import Derived.Carry
namespace Go.Proofs.Ytbifggfmfiocoaa.fnExactEnqueueMessage
open Go.ChangeShapes Go.WideShapes Go.ChangeAt Go.RowKit
open Go.ChangeMaps (open_string shut_string)
set_option linter.unusedVariables false

theorem own : ownKnob Try.prog.godebug = none := by kernel_rfl
theorem laidOut : laidOutB Try.prog = true := by kernel_rfl

theorem list2 {l : List Value} (h : l.length = 2) : ∃ c0 c1, l = [c0, c1] := by
  match l, h with
  | [c0, c1], _ => exact ⟨c0, c1, rfl⟩
theorem list4 {l : List Value} (h : l.length = 4) : ∃ c0 c1 c2 c3, l = [c0, c1, c2, c3] := by
  match l, h with
  | [c0, c1, c2, c3], _ => exact ⟨c0, c1, c2, c3, rfl⟩
set_option maxRecDepth 100000 in
set_option maxHeartbeats 2000000 in
theorem lifted (os : Os) (started : os.Started) (H : Type) (enc : TypeId × Value → H) :
    ReturnsInHanded {} Try.checked os 7 .any (Rows.fnExactEnqueueMessageSpec.pre6 enc Try.prog Try.f7 Rows.fnExactEnqueueMessageRow.domain false) (Rows.fnExactEnqueueMessageSpec.post enc Try.prog Try.f7 false true false false) := by
  refine returnsInHanded_of_change (C := Try.checked) own started (by kernel_rfl) Try.func7
    (ChangeSpec.witness6 (enc := enc) (C := Try.checked) false ⟨#[], #[.agg #[.slice none 0 0, .int .i64 0], .agg #[.int .i64 0, .int .i64 0, .int .i64 0, .slice none 0 0]], []⟩ 8 (by kernel_rfl) (by kernel_rfl) (by kernel_rfl) (by kernel_rfl)) ?_
  intro W base args ds gs before hval0 hW hcnd _
  have hval : ∀ (j : Nat) t v, Try.f7.params[j]? = some t → args[j]? = some v → Value.okWide Try.prog W .any base t v := hval0
  have hW' := hW
  obtain ⟨p, q, hA0, hV, rfl, hfz, hnd⟩ := hW
  have hA : DataW.TrodAll enc Try.prog W 0 (fun _ => true) true Try.f7.params.toList args.toList ds p := hA0
  rw [Try.params7] at hA hval
  obtain ⟨v0, vs0, d0, ds0, p0, q0, hargs, rfl, rfl, h0, r0⟩ := trodAll_cons hA
  obtain ⟨v1, vs1, d1, ds1, p1, q1, rfl, rfl, rfl, h1, r1⟩ := trodAll_cons r0
  obtain ⟨rfl, rfl, rfl⟩ := trodAll_nil r1
  obtain rfl : args = #[v0, v1] := by cases args; simp_all
  obtain ⟨rfl, rfl⟩ := trodVars_none hV
  have k0 := h0
  have lt0 : ∀ x ∈ p0, x.block < W.heap.size := by obtain ⟨m, hm⟩ := k0; exact DataW.trod_lt m _ _ _ hm
  obtain ⟨a0_0, len0_0, cap0_0, z0_0, a0_1, rfl, w0_0, w0_1⟩ : ∃ (a0_0 : Option Addr) (len0_0 cap0_0 : Nat) (z0_0 : List mq.Msg) (a0_1 : Int), v0 = .agg #[.slice a0_0 len0_0 cap0_0, .int .i64 a0_1] ∧ mrw.Rq mq.msg W 0 W.heap.size a0_0 len0_0 cap0_0 z0_0 ∧ (Lit.int .i64 a0_1).wf = true := by
    obtain ⟨cs, n, rfl, hl, hf⟩ := opn.open_fields Try.underlying50 (by kernel_rfl) (by kernel_rfl) (hval 0 50 v0 rfl rfl) h0 2 rfl
    obtain ⟨c0, c1, rfl⟩ := list2 hl
    obtain ⟨c, y, e, g0⟩ := hf 0 _ rfl
    obtain rfl : c0 = c := by simpa using e
    obtain ⟨A0, L0, C0, Z0, e0, u0⟩ := opm.open_msgs (fun _ => rfl) g0
    obtain rfl : c0 = .slice A0 L0 C0 := by simpa using e0
    obtain ⟨c, y, e, g1⟩ := hf 1 _ rfl
    obtain rfl : c1 = c := by simpa using e
    obtain ⟨b1, e1, _, u1⟩ := DataW.trod_int Try.underlying3 g1
    obtain rfl : c1 = .int .i64 b1 := by simpa using e1
    exact ⟨A0, L0, C0, Z0, b1, rfl, u0, u1⟩
  have k1 := h1
  have lt1 : ∀ x ∈ p1, x.block < W.heap.size := by obtain ⟨m, hm⟩ := k1; exact DataW.trod_lt m _ _ _ hm
  obtain ⟨a1_0, a1_1, a1_2, a1_3, len1_3, cap1_3, z1_3, rfl, w1_0, w1_1, w1_2, w1_3⟩ : ∃ (a1_0 : Int) (a1_1 : Int) (a1_2 : Int) (a1_3 : Option Addr) (len1_3 cap1_3 : Nat) (z1_3 : List Int), v1 = .agg #[.int .i64 a1_0, .int .i64 a1_1, .int .i64 a1_2, .slice a1_3 len1_3 cap1_3] ∧ (Lit.int .i64 a1_0).wf = true ∧ (Lit.int .i64 a1_1).wf = true ∧ (Lit.int .i64 a1_2).wf = true ∧ kit.IsRow .u8 W a1_3 len1_3 cap1_3 z1_3 := by
    obtain ⟨cs, n, rfl, hl, hf⟩ := opn.open_fields Try.underlying44 (by kernel_rfl) (by kernel_rfl) (hval 1 44 v1 rfl rfl) h1 4 rfl
    obtain ⟨c0, c1, c2, c3, rfl⟩ := list4 hl
    obtain ⟨c, y, e, g0⟩ := hf 0 _ rfl
    obtain rfl : c0 = c := by simpa using e
    obtain ⟨b0, e0, _, u0⟩ := DataW.trod_int Try.underlying3 g0
    obtain rfl : c0 = .int .i64 b0 := by simpa using e0
    obtain ⟨c, y, e, g1⟩ := hf 1 _ rfl
    obtain rfl : c1 = c := by simpa using e
    obtain ⟨b1, e1, _, u1⟩ := DataW.trod_int Try.underlying3 g1
    obtain rfl : c1 = .int .i64 b1 := by simpa using e1
    obtain ⟨c, y, e, g2⟩ := hf 2 _ rfl
    obtain rfl : c2 = c := by simpa using e
    obtain ⟨b2, e2, _, u2⟩ := DataW.trod_int Try.underlying3 g2
    obtain rfl : c2 = .int .i64 b2 := by simpa using e2
    obtain ⟨c, y, e, g3⟩ := hf 3 _ rfl
    obtain rfl : c3 = c := by simpa using e
    obtain ⟨A3, L3, C3, Z3, rfl, u3⟩ : ∃ A0 L0 C0 Z0, c3 = .slice A0 L0 C0 ∧ kit.IsRow .u8 W A0 L0 C0 Z0 := by
      rcases open_ints Try.underlying22 Try.underlying5 (by kernel_rfl) g3 with ⟨hcs, _⟩ | ⟨x, l, c, zs, hcs, _, hl2, hm, hz, _, hcell, hwz⟩
      · simp at hcs; subst hcs
        exact ⟨none, 0, 0, [], rfl, .inl ⟨rfl, rfl, rfl, rfl⟩⟩
      · simp at hcs; subst hcs
        exact ⟨some x, l, c, zs, rfl, .inr ⟨_, rfl, hl2, hm, by simpa using hz, hcell, hwz⟩⟩
    exact ⟨b0, b1, b2, A3, L3, C3, Z3, rfl, u0, u1, u2, u3⟩
  clear hA0 hval0
  refine (xExactEnqueueMessage.walkA z0_0 a0_1 a0_0 len0_0 cap0_0 a1_0 a1_1 a1_2 a1_3 len1_3 cap1_3 z1_3 _ w0_0 w1_3).mono fun e W1 ⟨he, bel⟩ => ?_
  subst he
  exact ⟨_, rfl, _, _, _, [], _, [], hW', trodAll_mk1 (shut_bool Try.underlying4 _), (trodAll_cons_mk (Below.trod laidOut (by kernel_rfl) (of_decide_eq_true (by kernel_rfl)) k0 bel lt0) (trodAll_cons_mk (Below.trod laidOut (by kernel_rfl) (of_decide_eq_true (by kernel_rfl)) k1 bel lt1) trodAll_mk0)), rfl, bel.frame _, fun h => by cases h⟩

theorem row : Rows.fnExactEnqueueMessageRow.holds Try.pinned (OpenSpec.ofChange Rows.fnExactEnqueueMessageSpec) :=
  OpenClaim.holds_of_wide 7 Try.f7 rfl rfl rfl rfl rfl rfl rfl ⟨rfl, rfl, rfl, rfl, rfl⟩ rfl rfl rfl rfl rfl (by kernel_rfl) Try.func7 (by kernel_rfl)
    (of_decide_eq_true (by kernel_rfl)) (by unfold Func.isWrapper; first | (rw [if_pos (by decide +kernel)]; kernel_rfl) | (rw [if_neg (by decide +kernel)]; exact ⟨rfl, rfl⟩))
    (fun os started H enc _ => lifted os started H enc)

theorem proved : Rows.FnExactEnqueueMessageSaid := row
#print axioms proved
end Go.Proofs.Ytbifggfmfiocoaa.fnExactEnqueueMessage
