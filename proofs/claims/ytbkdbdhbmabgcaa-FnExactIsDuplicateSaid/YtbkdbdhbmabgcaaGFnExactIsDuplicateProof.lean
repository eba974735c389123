/- For every input that fits, the law function of IsDuplicate returns true, and each argument reads afterwards as before. Conditions: none beyond those of the form. -/
import Derived.Test.YtbkdbdhbmabgcaaRows
import Derived.Lib.SmallJoins
import Derived.WalkKit
import Derived.ProofKit
import Derived.OpenShut
import Derived.ShutString
import Derived.ChangeOld
import Derived.Below
import Derived.Carry
import Derived.Test.YtbkdbdhbmabgcaaG1
import Derived.Test.YtbkdbdhbmabgcaaG11
import Derived.Test.YtbkdbdhbmabgcaaG12
namespace Go.Proofs.Ytbkdbdhbmabgcaa.fnExactIsDuplicate
open Go.ChangeShapes Go.WideShapes Go.ChangeAt Go.RowKit
open Go.ChangeMaps (open_string shut_string)
set_option linter.unusedVariables false

theorem own : ownKnob Try.prog.godebug = none := by kernel_rfl
theorem laidOut : laidOutB Try.prog = true := by kernel_rfl

theorem list9 {l : List Value} (h : l.length = 9) : ∃ c0 c1 c2 c3 c4 c5 c6 c7 c8, l = [c0, c1, c2, c3, c4, c5, c6, c7, c8] := by
  match l, h with
  | [c0, c1, c2, c3, c4, c5, c6, c7, c8], _ => exact ⟨c0, c1, c2, c3, c4, c5, c6, c7, c8, rfl⟩
set_option maxRecDepth 100000 in
set_option maxHeartbeats 2000000 in
theorem lifted (os : Os) (started : os.Started) (H : Type) (enc : TypeId × Value → H) :
    ReturnsInHanded {} Try.checked os 7 .any (Rows.fnExactIsDuplicateSpec.pre6 enc Try.prog Try.f7 Rows.fnExactIsDuplicateRow.domain false) (Rows.fnExactIsDuplicateSpec.post enc Try.prog Try.f7 false true false false) := by
  refine returnsInHanded_of_change (C := Try.checked) own started (by kernel_rfl) Try.func7
    (ChangeSpec.witness6 (enc := enc) (C := Try.checked) false ⟨#[], #[.slice none 0 0, .agg #[.int .i64 0, .int .i64 0, .int .i64 0, .int .i64 0, .int .i64 0, .bool false, .bool false, .int .i64 0, .slice none 0 0], .int .i64 0], []⟩ 8 (by kernel_rfl) (by kernel_rfl) (by kernel_rfl) (by kernel_rfl)) ?_
  intro W base args ds gs before hval0 hW hcnd _
  have hval : ∀ (j : Nat) t v, Try.f7.params[j]? = some t → args[j]? = some v → Value.okWide Try.prog W .any base t v := hval0
  have hW' := hW
  obtain ⟨p, q, hA0, hV, rfl, hfz, hnd⟩ := hW
  have hA : DataW.TrodAll enc Try.prog W 0 (fun _ => true) true Try.f7.params.toList args.toList ds p := hA0
  rw [Try.params7] at hA hval
  obtain ⟨v0, vs0, d0, ds0, p0, q0, hargs, rfl, rfl, h0, r0⟩ := trodAll_cons hA
  obtain ⟨v1, vs1, d1, ds1, p1, q1, rfl, rfl, rfl, h1, r1⟩ := trodAll_cons r0
  obtain ⟨v2, vs2, d2, ds2, p2, q2, rfl, rfl, rfl, h2, r2⟩ := trodAll_cons r1
  obtain ⟨rfl, rfl, rfl⟩ := trodAll_nil r2
  obtain rfl : args = #[v0, v1, v2] := by cases args; simp_all
  obtain ⟨rfl, rfl⟩ := trodVars_none hV
  obtain ⟨a0, len0, cap0, rfl⟩ := okWide_slice Try.underlying51 (hval 0 51 v0 rfl rfl)
  have k0 := h0
  have lt0 : ∀ x ∈ p0, x.block < W.heap.size := by obtain ⟨m, hm⟩ := k0; exact DataW.trod_lt m _ _ _ hm
  obtain ⟨z0, w0⟩ : ∃ zs : List ux.Sen, mrw.Rq sn.senS W 0 W.heap.size a0 len0 cap0 zs := by
    obtain ⟨fuel, hf⟩ := h0
    obtain ⟨A0, L0, C0, Z0, e0, u0⟩ := opm.open_sens (fun _ => rfl) hf
    simp [Value.cells] at e0
    obtain ⟨rfl, rfl, rfl⟩ := e0
    exact ⟨Z0, u0⟩
  have k1 := h1
  have lt1 : ∀ x ∈ p1, x.block < W.heap.size := by obtain ⟨m, hm⟩ := k1; exact DataW.trod_lt m _ _ _ hm
  obtain ⟨a1_0, a1_1, a1_2, a1_3, a1_4, a1_5, a1_6, a1_7, a1_8, len1_8, cap1_8, z1_8, rfl, w1_0, w1_1, w1_2, w1_3, w1_4, w1_7, w1_8⟩ : ∃ (a1_0 : Int) (a1_1 : Int) (a1_2 : Int) (a1_3 : Int) (a1_4 : Int) (a1_5 : Bool) (a1_6 : Bool) (a1_7 : Int) (a1_8 : Option Addr) (len1_8 cap1_8 : Nat) (z1_8 : List Int), v1 = .agg #[.int .i64 a1_0, .int .i64 a1_1, .int .i64 a1_2, .int .i64 a1_3, .int .i64 a1_4, .bool a1_5, .bool a1_6, .int .i64 a1_7, .slice a1_8 len1_8 cap1_8] ∧ (Lit.int .i64 a1_0).wf = true ∧ (Lit.int .i64 a1_1).wf = true ∧ (Lit.int .i64 a1_2).wf = true ∧ (Lit.int .i64 a1_3).wf = true ∧ (Lit.int .i64 a1_4).wf = true ∧ (Lit.int .i64 a1_7).wf = true ∧ kit.IsRow .u8 W a1_8 len1_8 cap1_8 z1_8 := by
    obtain ⟨cs, n, rfl, hl, hf⟩ := opn.open_fields Try.underlying56 (by kernel_rfl) (by kernel_rfl) (hval 1 56 v1 rfl rfl) h1 9 rfl
    obtain ⟨c0, c1, c2, c3, c4, c5, c6, c7, c8, rfl⟩ := list9 hl
    obtain ⟨c, y, e, g0⟩ := hf 0 _ rfl
    obtain rfl : c0 = c := by simpa using e
    obtain ⟨b0, e0, _, u0⟩ := DataW.trod_int Try.underlying3 g0
    obtain rfl : c0 = .int .i64 b0 := by simpa using e0
    obtain ⟨c, y, e, g1⟩ := hf 1 _ rfl
    obtain rfl : c1 = c := by simpa using e
    obtain ⟨b1, e1, _, u1⟩ := DataW.trod_int Try.underlying3 g1
    obtain rfl : c1 = .int .i64 b1 := by simpa using e1
    obtain ⟨c, y, e, g2⟩ := hf 2 _ rfl
    obtain rfl : c2 = c := by simpa using e
    obtain ⟨b2, e2, _, u2⟩ := DataW.trod_int Try.underlying3 g2
    obtain rfl : c2 = .int .i64 b2 := by simpa using e2
    obtain ⟨c, y, e, g3⟩ := hf 3 _ rfl
    obtain rfl : c3 = c := by simpa using e
    obtain ⟨b3, e3, _, u3⟩ := DataW.trod_int Try.underlying3 g3
    obtain rfl : c3 = .int .i64 b3 := by simpa using e3
    obtain ⟨c, y, e, g4⟩ := hf 4 _ rfl
    obtain rfl : c4 = c := by simpa using e
    obtain ⟨b4, e4, _, u4⟩ := DataW.trod_int Try.underlying3 g4
    obtain rfl : c4 = .int .i64 b4 := by simpa using e4
    obtain ⟨c, y, e, g5⟩ := hf 5 _ rfl
    obtain rfl : c5 = c := by simpa using e
    obtain ⟨b5, e5, _⟩ := DataW.trod_bool Try.underlying4 g5
    obtain rfl : c5 = .bool b5 := by simpa using e5
    obtain ⟨c, y, e, g6⟩ := hf 6 _ rfl
    obtain rfl : c6 = c := by simpa using e
    obtain ⟨b6, e6, _⟩ := DataW.trod_bool Try.underlying4 g6
    obtain rfl : c6 = .bool b6 := by simpa using e6
    obtain ⟨c, y, e, g7⟩ := hf 7 _ rfl
    obtain rfl : c7 = c := by simpa using e
    obtain ⟨b7, e7, _, u7⟩ := DataW.trod_int Try.underlying3 g7
    obtain rfl : c7 = .int .i64 b7 := by simpa using e7
    obtain ⟨c, y, e, g8⟩ := hf 8 _ rfl
    obtain rfl : c8 = c := by simpa using e
    obtain ⟨A8, L8, C8, Z8, rfl, u8⟩ : ∃ A0 L0 C0 Z0, c8 = .slice A0 L0 C0 ∧ kit.IsRow .u8 W A0 L0 C0 Z0 := by
      rcases open_ints Try.underlying22 Try.underlying5 (by kernel_rfl) g8 with ⟨hcs, _⟩ | ⟨x, l, c, zs, hcs, _, hl2, hm, hz, _, hcell, hwz⟩
      · simp at hcs; subst hcs
        exact ⟨none, 0, 0, [], rfl, .inl ⟨rfl, rfl, rfl, rfl⟩⟩
      · simp at hcs; subst hcs
        exact ⟨some x, l, c, zs, rfl, .inr ⟨_, rfl, hl2, hm, by simpa using hz, hcell, hwz⟩⟩
    exact ⟨b0, b1, b2, b3, b4, b5, b6, b7, A8, L8, C8, Z8, rfl, u0, u1, u2, u3, u4, u7, u8⟩
  obtain ⟨a2, rfl, rfl, rfl, w2⟩ := open_int Try.underlying3 (hval 2 3 v2 rfl rfl) h2
  clear hA0 hval0
  refine (xExactIsDuplicate.walkA z0 a0 len0 cap0 a1_0 a1_1 a1_2 a1_3 a1_4 a1_5 a1_6 a1_7 a1_8 len1_8 cap1_8 z1_8 a2 _ w0 w1_8).mono fun e W1 ⟨he, bel⟩ => ?_
  subst he
  exact ⟨_, rfl, _, _, _, [], _, [], hW', trodAll_mk1 (shut_bool Try.underlying4 _), (trodAll_cons_mk (Below.trod laidOut (by kernel_rfl) (of_decide_eq_true (by kernel_rfl)) k0 bel lt0) (trodAll_cons_mk (Below.trod laidOut (by kernel_rfl) (of_decide_eq_true (by kernel_rfl)) k1 bel lt1) (trodAll_cons_mk (shut_int Try.underlying3 w2) trodAll_mk0))), rfl, bel.frame _, fun h => by cases h⟩

theorem row : Rows.fnExactIsDuplicateRow.holds Try.pinned (OpenSpec.ofChange Rows.fnExactIsDuplicateSpec) :=
  OpenClaim.holds_of_wide 7 Try.f7 rfl rfl rfl rfl rfl rfl rfl ⟨rfl, rfl, rfl, rfl, rfl⟩ rfl rfl rfl rfl rfl (by kernel_rfl) Try.func7 (by kernel_rfl)
    (of_decide_eq_true (by kernel_rfl)) (by unfold Func.isWrapper; first | (rw [if_pos (by decide +kernel)]; kernel_rfl) | (rw [if_neg (by decide +kernel)]; exact ⟨rfl, rfl⟩))
    (fun os started H enc _ => lifted os started H enc)

theorem proved : Rows.FnExactIsDuplicateSaid := row
#print axioms proved
end Go.Proofs.Ytbkdbdhbmabgcaa.fnExactIsDuplicate
