/- Valid backoffs, ready backoffs, the slots until then, the wait for a window: program and specification. Condition: seeds and draws are numbers of the machine. -/
import Derived.Test.YtkfkfejjhfkobaaDoorBom
import Derived.Test.YtkfkfejjhfkobaaDoorAc2
import Derived.Test.YtkfkfejjhfkobaaDoorKeyed
namespace Go.Proofs.YtkfkfejjhfkobaaDoor.bx
open Go.RowKit sl harn rng acm bom
set_option linter.unusedVariables false

/-- A backoff's nine numbers. -/
abbrev bv (q : Bo) : Array Value := #[.int .i64 q.a, .int .i64 q.b, .int .i64 q.c, .int .i64 q.d, .int .i64 q.x, .int .i64 q.t, .int .i64 q.j, .int .i64 q.r, .int .i64 q.n]
/-- What a function hands back that is a backoff. -/
def OPost (q : Bo) (w : World) (e : Ending) (w' : World) : Prop := e = .returned (.agg (bv q)) ∧ Below w.heap.size w w'
theorem o_parts {q : Bo} {a b c d x t j r n : Int} (ht : q = ⟨a, b, c, d, x, t, j, r, n⟩) {w w' : World} {e : Ending} (h : OPost q w e w') : e = .returned (.agg #[.int .i64 a, .int .i64 b, .int .i64 c, .int .i64 d, .int .i64 x, .int .i64 t, .int .i64 j, .int .i64 r, .int .i64 n]) ∧ Below w.heap.size w w' := by subst ht; exact h

theorem no_next {P : Nat → Prop} {k : Nat} (h : ∀ m : Nat, m < k → P m) (hk : P k) : ∀ m : Nat, m < k + 1 → P m := fun m hm => by
  by_cases e : m = k
  · rw [e]; exact hk
  · exact h m (by omega)
set_option maxRecDepth 100000 in
set_option maxHeartbeats 4000000 in
theorem implRea (a b c d x : Int) (w : World) :
    Calls Tryd.prog 23 #[.agg #[.int .i64 a, .int .i64 b, .int .i64 c, .int .i64 d], .int .i64 x] w (BPost (rea b c x) w) := by
  obtain ⟨v1, h1⟩ : ∃ v, win x = v := ⟨_, rfl⟩
  obtain ⟨v2, h2⟩ : ∃ v, decide (b ≤ x ∧ x ≤ c) = v := ⟨_, rfl⟩
  have HV := Lib.hid (show rea b c x = (v1 && v2) by unfold rea; rw [h1, h2])
  have H1 := Lib.hid h1
  have H2 := Lib.hid h2
  clear h1 h2
  go_enter Tryd.func23, Tryd.ntmps23
  go_wp2_with fail
  obtain ⟨w0, hW⟩ : ∃ w0, w.alloc (.cells #[.int .i64 a, .int .i64 b, .int .i64 c, .int .i64 d] 26) = w0 := ⟨_, rfl⟩
  rw [hW]
  have B0 := Lib.hid (show Below w.heap.size w w0 by rw [← hW]; exact below_box _ _)
  have X0 := Lib.hid (show Bx 26 w0 w.heap.size #[.int .i64 a, .int .i64 b, .int .i64 c, .int .i64 d] by rw [← hW]; exact Bx.made _ _ _)
  clear hW
  (with_reducible refine (implWin x v1 H1.out _).mono ?_)
  rintro e w1 ⟨rfl, rfl⟩
  have c0 : w0.cell? ⟨w.heap.size, 0, none⟩ = some (.int .i64 a) := X0.out.cell 0
  have c1 : w0.cell? ⟨w.heap.size, 1, none⟩ = some (.int .i64 b) := X0.out.cell 1
  have c2 : w0.cell? ⟨w.heap.size, 2, none⟩ = some (.int .i64 c) := X0.out.cell 2
  have c3 : w0.cell? ⟨w.heap.size, 3, none⟩ = some (.int .i64 d) := X0.out.cell 3
  cases v1 with
  | true =>
    go_wp2_with fail
    (with_reducible refine (inR x b c v2 _ H2.out).mono ?_)
    rintro e w1 ⟨rfl, rfl⟩
    go_wp2_with fail
    go_ret
    rw [HV.out]
    exact ⟨by simp, B0.out⟩
  | false =>
    go_wp2_with fail
    go_ret
    rw [HV.out]
    exact ⟨by simp, B0.out⟩
set_option maxRecDepth 100000 in
set_option maxHeartbeats 4000000 in
theorem implVb (a b c d x t j r n : Int) (w : World) :
    Calls Tryd.prog 10 #[.agg #[.int .i64 a, .int .i64 b, .int .i64 c, .int .i64 d, .int .i64 x, .int .i64 t, .int .i64 j, .int .i64 r, .int .i64 n]] w (BPost (vb ⟨a, b, c, d, x, t, j, r, n⟩) w) := by
  obtain ⟨v1, h1⟩ : ∃ v, vp a b c d = v := ⟨_, rfl⟩
  obtain ⟨v2, h2⟩ : ∃ v, rea b c x = v := ⟨_, rfl⟩
  obtain ⟨v3, h3⟩ : ∃ v, decide (0 ≤ t ∧ t ≤ x) = v := ⟨_, rfl⟩
  obtain ⟨v4, h4⟩ : ∃ v, decide (0 ≤ j ∧ j ≤ a) = v := ⟨_, rfl⟩
  obtain ⟨v5, h5⟩ : ∃ v, decide (0 ≤ r ∧ r ≤ 7) = v := ⟨_, rfl⟩
  obtain ⟨v6, h6⟩ : ∃ v, decide (0 ≤ n ∧ n ≤ 1000000000000) = v := ⟨_, rfl⟩
  have HV := Lib.hid (show vb ⟨a, b, c, d, x, t, j, r, n⟩ = (v1 && v2 && v3 && v4 && v5 && v6) by unfold vb; rw [← h1, ← h2, ← h3, ← h4, ← h5, ← h6])
  have H1 := Lib.hid h1
  have H2 := Lib.hid h2
  have H3 := Lib.hid h3
  have H4 := Lib.hid h4
  have H5 := Lib.hid h5
  have H6 := Lib.hid h6
  clear h1 h2 h3 h4 h5 h6
  go_enter Tryd.func10, Tryd.ntmps10
  go_wp2_with fail
  obtain ⟨w0, hW⟩ : ∃ w0, w.alloc (.cells #[.int .i64 a, .int .i64 b, .int .i64 c, .int .i64 d, .int .i64 x, .int .i64 t, .int .i64 j, .int .i64 r, .int .i64 n] 28) = w0 := ⟨_, rfl⟩
  rw [hW]
  have B0 := Lib.hid (show Below w.heap.size w w0 by rw [← hW]; exact below_box _ _)
  have X0 := Lib.hid (show Bx 28 w0 w.heap.size #[.int .i64 a, .int .i64 b, .int .i64 c, .int .i64 d, .int .i64 x, .int .i64 t, .int .i64 j, .int .i64 r, .int .i64 n] by rw [← hW]; exact Bx.made _ _ _)
  clear hW
  have c0 : w0.cell? ⟨w.heap.size, 0, none⟩ = some (.int .i64 a) := X0.out.cell 0
  have c1 : w0.cell? ⟨w.heap.size, 1, none⟩ = some (.int .i64 b) := X0.out.cell 1
  have c2 : w0.cell? ⟨w.heap.size, 2, none⟩ = some (.int .i64 c) := X0.out.cell 2
  have c3 : w0.cell? ⟨w.heap.size, 3, none⟩ = some (.int .i64 d) := X0.out.cell 3
  have c4 : w0.cell? ⟨w.heap.size, 4, none⟩ = some (.int .i64 x) := X0.out.cell 4
  have c5 : w0.cell? ⟨w.heap.size, 5, none⟩ = some (.int .i64 t) := X0.out.cell 5
  have c6 : w0.cell? ⟨w.heap.size, 6, none⟩ = some (.int .i64 j) := X0.out.cell 6
  have c7 : w0.cell? ⟨w.heap.size, 7, none⟩ = some (.int .i64 r) := X0.out.cell 7
  have c8 : w0.cell? ⟨w.heap.size, 8, none⟩ = some (.int .i64 n) := X0.out.cell 8
  go_wp2_with fail
  (with_reducible refine (implVp a b c d _).mono ?_)
  rintro e w1 hp
  obtain ⟨rfl, hb⟩ := b_parts H1.out hp
  clear hp
  have B1 := Lib.hid (B0.out.trans (hb.mono B0.out.size))
  have X1 := Lib.hid (X0.out.below hb)
  clear hb B0 X0
  clear c0 c1 c2 c3 c4 c5 c6 c7 c8
  cases v1 with
  | true =>
    have c0 : w1.cell? ⟨w.heap.size, 0, none⟩ = some (.int .i64 a) := X1.out.cell 0
    have c1 : w1.cell? ⟨w.heap.size, 1, none⟩ = some (.int .i64 b) := X1.out.cell 1
    have c2 : w1.cell? ⟨w.heap.size, 2, none⟩ = some (.int .i64 c) := X1.out.cell 2
    have c3 : w1.cell? ⟨w.heap.size, 3, none⟩ = some (.int .i64 d) := X1.out.cell 3
    have c4 : w1.cell? ⟨w.heap.size, 4, none⟩ = some (.int .i64 x) := X1.out.cell 4
    have c5 : w1.cell? ⟨w.heap.size, 5, none⟩ = some (.int .i64 t) := X1.out.cell 5
    have c6 : w1.cell? ⟨w.heap.size, 6, none⟩ = some (.int .i64 j) := X1.out.cell 6
    have c7 : w1.cell? ⟨w.heap.size, 7, none⟩ = some (.int .i64 r) := X1.out.cell 7
    have c8 : w1.cell? ⟨w.heap.size, 8, none⟩ = some (.int .i64 n) := X1.out.cell 8
    go_wp2_with fail
    (with_reducible refine (implRea a b c d x _).mono ?_)
    rintro e w2 hp
    obtain ⟨rfl, hb⟩ := b_parts H2.out hp
    clear hp
    have B2 := Lib.hid (B1.out.trans (hb.mono B1.out.size))
    have X2 := Lib.hid (X1.out.below hb)
    clear hb B1 X1
    clear c0 c1 c2 c3 c4 c5 c6 c7 c8
    cases v2 with
    | true =>
      have c0 : w2.cell? ⟨w.heap.size, 0, none⟩ = some (.int .i64 a) := X2.out.cell 0
      have c1 : w2.cell? ⟨w.heap.size, 1, none⟩ = some (.int .i64 b) := X2.out.cell 1
      have c2 : w2.cell? ⟨w.heap.size, 2, none⟩ = some (.int .i64 c) := X2.out.cell 2
      have c3 : w2.cell? ⟨w.heap.size, 3, none⟩ = some (.int .i64 d) := X2.out.cell 3
      have c4 : w2.cell? ⟨w.heap.size, 4, none⟩ = some (.int .i64 x) := X2.out.cell 4
      have c5 : w2.cell? ⟨w.heap.size, 5, none⟩ = some (.int .i64 t) := X2.out.cell 5
      have c6 : w2.cell? ⟨w.heap.size, 6, none⟩ = some (.int .i64 j) := X2.out.cell 6
      have c7 : w2.cell? ⟨w.heap.size, 7, none⟩ = some (.int .i64 r) := X2.out.cell 7
      have c8 : w2.cell? ⟨w.heap.size, 8, none⟩ = some (.int .i64 n) := X2.out.cell 8
      go_wp2_with fail
      (with_reducible refine (inR t 0 x v3 _ H3.out).mono ?_)
      rintro e w3 ⟨rfl, rfl⟩
      cases v3 with
      | true =>
        go_wp2_with fail
        (with_reducible refine (inR j 0 a v4 _ H4.out).mono ?_)
        rintro e w3 ⟨rfl, rfl⟩
        cases v4 with
        | true =>
          go_wp2_with fail
          (with_reducible refine (inR r 0 7 v5 _ H5.out).mono ?_)
          rintro e w3 ⟨rfl, rfl⟩
          cases v5 with
          | true =>
            go_wp2_with fail
            (with_reducible refine (inR n 0 1000000000000 v6 _ H6.out).mono ?_)
            rintro e w3 ⟨rfl, rfl⟩
            cases v6 with
            | true =>
              go_wp2_with fail
              go_ret
              rw [HV.out]
              exact ⟨by simp, B2.out⟩
            | false =>
              go_wp2_with fail
              go_ret
              rw [HV.out]
              exact ⟨by simp, B2.out⟩
          | false =>
            go_wp2_with fail
            go_ret
            rw [HV.out]
            exact ⟨by simp, B2.out⟩
        | false =>
          go_wp2_with fail
          go_ret
          rw [HV.out]
          exact ⟨by simp, B2.out⟩
      | false =>
        go_wp2_with fail
        go_ret
        rw [HV.out]
        exact ⟨by simp, B2.out⟩
    | false =>
      go_wp2_with fail
      go_ret
      rw [HV.out]
      exact ⟨by simp, B2.out⟩
  | false =>
    go_wp2_with fail
    go_ret
    rw [HV.out]
    exact ⟨by simp, B1.out⟩
set_option maxRecDepth 100000 in
set_option maxHeartbeats 4000000 in
theorem specVb (a b c d x t j r n : Int) (w : World) :
    Calls Tryd.prog 13 #[.agg #[.int .i64 a, .int .i64 b, .int .i64 c, .int .i64 d, .int .i64 x, .int .i64 t, .int .i64 j, .int .i64 r, .int .i64 n]] w (BPost (vb ⟨a, b, c, d, x, t, j, r, n⟩) w) := by
  obtain ⟨v1, h1⟩ : ∃ v, vp a b c d = v := ⟨_, rfl⟩
  obtain ⟨v2, h2⟩ : ∃ v, rea b c x = v := ⟨_, rfl⟩
  obtain ⟨v3, h3⟩ : ∃ v, decide (0 ≤ t ∧ t ≤ x) = v := ⟨_, rfl⟩
  obtain ⟨v4, h4⟩ : ∃ v, decide (0 ≤ j ∧ j ≤ a) = v := ⟨_, rfl⟩
  obtain ⟨v5, h5⟩ : ∃ v, decide (0 ≤ r ∧ r ≤ 7) = v := ⟨_, rfl⟩
  obtain ⟨v6, h6⟩ : ∃ v, decide (0 ≤ n ∧ n ≤ 1000000000000) = v := ⟨_, rfl⟩
  have HV := Lib.hid (show vb ⟨a, b, c, d, x, t, j, r, n⟩ = (v1 && v2 && v3 && v4 && v5 && v6) by unfold vb; rw [← h1, ← h2, ← h3, ← h4, ← h5, ← h6])
  have H1 := Lib.hid h1
  have H2 := Lib.hid h2
  have H3 := Lib.hid h3
  have H4 := Lib.hid h4
  have H5 := Lib.hid h5
  have H6 := Lib.hid h6
  clear h1 h2 h3 h4 h5 h6
  go_enter Tryd.func13, Tryd.ntmps13
  go_wp2_with fail
  obtain ⟨w0, hW⟩ : ∃ w0, w.alloc (.cells #[.int .i64 a, .int .i64 b, .int .i64 c, .int .i64 d, .int .i64 x, .int .i64 t, .int .i64 j, .int .i64 r, .int .i64 n] 28) = w0 := ⟨_, rfl⟩
  rw [hW]
  have B0 := Lib.hid (show Below w.heap.size w w0 by rw [← hW]; exact below_box _ _)
  have X0 := Lib.hid (show Bx 28 w0 w.heap.size #[.int .i64 a, .int .i64 b, .int .i64 c, .int .i64 d, .int .i64 x, .int .i64 t, .int .i64 j, .int .i64 r, .int .i64 n] by rw [← hW]; exact Bx.made _ _ _)
  clear hW
  have c0 : w0.cell? ⟨w.heap.size, 0, none⟩ = some (.int .i64 a) := X0.out.cell 0
  have c1 : w0.cell? ⟨w.heap.size, 1, none⟩ = some (.int .i64 b) := X0.out.cell 1
  have c2 : w0.cell? ⟨w.heap.size, 2, none⟩ = some (.int .i64 c) := X0.out.cell 2
  have c3 : w0.cell? ⟨w.heap.size, 3, none⟩ = some (.int .i64 d) := X0.out.cell 3
  have c4 : w0.cell? ⟨w.heap.size, 4, none⟩ = some (.int .i64 x) := X0.out.cell 4
  have c5 : w0.cell? ⟨w.heap.size, 5, none⟩ = some (.int .i64 t) := X0.out.cell 5
  have c6 : w0.cell? ⟨w.heap.size, 6, none⟩ = some (.int .i64 j) := X0.out.cell 6
  have c7 : w0.cell? ⟨w.heap.size, 7, none⟩ = some (.int .i64 r) := X0.out.cell 7
  have c8 : w0.cell? ⟨w.heap.size, 8, none⟩ = some (.int .i64 n) := X0.out.cell 8
  go_wp2_with fail
  (with_reducible refine (specVp a b c d _).mono ?_)
  rintro e w1 hp
  obtain ⟨rfl, hb⟩ := b_parts H1.out hp
  clear hp
  have B1 := Lib.hid (B0.out.trans (hb.mono B0.out.size))
  have X1 := Lib.hid (X0.out.below hb)
  clear hb B0 X0
  clear c0 c1 c2 c3 c4 c5 c6 c7 c8
  cases v1 with
  | true =>
    have c0 : w1.cell? ⟨w.heap.size, 0, none⟩ = some (.int .i64 a) := X1.out.cell 0
    have c1 : w1.cell? ⟨w.heap.size, 1, none⟩ = some (.int .i64 b) := X1.out.cell 1
    have c2 : w1.cell? ⟨w.heap.size, 2, none⟩ = some (.int .i64 c) := X1.out.cell 2
    have c3 : w1.cell? ⟨w.heap.size, 3, none⟩ = some (.int .i64 d) := X1.out.cell 3
    have c4 : w1.cell? ⟨w.heap.size, 4, none⟩ = some (.int .i64 x) := X1.out.cell 4
    have c5 : w1.cell? ⟨w.heap.size, 5, none⟩ = some (.int .i64 t) := X1.out.cell 5
    have c6 : w1.cell? ⟨w.heap.size, 6, none⟩ = some (.int .i64 j) := X1.out.cell 6
    have c7 : w1.cell? ⟨w.heap.size, 7, none⟩ = some (.int .i64 r) := X1.out.cell 7
    have c8 : w1.cell? ⟨w.heap.size, 8, none⟩ = some (.int .i64 n) := X1.out.cell 8
    go_wp2_with fail
    (with_reducible refine (l1R t 0 x v3 _ H3.out).mono ?_)
    rintro e w3 ⟨rfl, rfl⟩
    cases v3 with
    | true =>
      go_wp2_with fail
      (with_reducible refine (l1R j 0 a v4 _ H4.out).mono ?_)
      rintro e w3 ⟨rfl, rfl⟩
      cases v4 with
      | true =>
        go_wp2_with fail
        (with_reducible refine (l1R r 0 7 v5 _ H5.out).mono ?_)
        rintro e w3 ⟨rfl, rfl⟩
        cases v5 with
        | true =>
          go_wp2_with fail
          (with_reducible refine (l1R n 0 1000000000000 v6 _ H6.out).mono ?_)
          rintro e w3 ⟨rfl, rfl⟩
          cases v6 with
          | true =>
            go_wp2_with fail
            clear c0 c1 c2 c3 c4 c5 c6 c7 c8
            go_loopw [3] (fun i wr => ∃ k : Nat, i = .int .i64 k ∧ k ≤ 21 ∧ (∀ m : Nat, m < k → ¬ it b c m = x) ∧ Below w1.heap.size w1 wr) (fun i _ => 21 - (intOf i).toNat)
            case atStart => exact ⟨0, rfl, by omega, fun m hm => by omega, Below.refl _ _⟩
            case round =>
              obtain ⟨k, rfl, hk, hno, hb⟩ := hrel
              have D2 := Lib.hid hb
              have NO := Lib.hid hno
              have B2 := Lib.hid (B1.out.trans (hb.mono B1.out.size))
              have X2 := Lib.hid (X1.out.below hb)
              clear hb hno
              by_cases h20 : (k : Int) ≤ 20
              · obtain ⟨g, hg⟩ : ∃ g, wa a b c d k = g := ⟨_, rfl⟩
                have HG := Lib.hid hg
                have HI := Lib.hid (show it b c k = g by rw [← hg, wa_yes H1.out]; rw [show cap (k : Int) = k by unfold cap; split <;> omega])
                clear hg
                go_wp2_with fail
                have c0 : ∀ m : Af wr, m.w.cell? ⟨w.heap.size, 0, none⟩ = some (.int .i64 a) := fun m => (Af.cells X2.out m).cell 0
                have c1 : ∀ m : Af wr, m.w.cell? ⟨w.heap.size, 1, none⟩ = some (.int .i64 b) := fun m => (Af.cells X2.out m).cell 1
                have c2 : ∀ m : Af wr, m.w.cell? ⟨w.heap.size, 2, none⟩ = some (.int .i64 c) := fun m => (Af.cells X2.out m).cell 2
                have c3 : ∀ m : Af wr, m.w.cell? ⟨w.heap.size, 3, none⟩ = some (.int .i64 d) := fun m => (Af.cells X2.out m).cell 3
                have c4 : ∀ m : Af wr, m.w.cell? ⟨w.heap.size, 4, none⟩ = some (.int .i64 x) := fun m => (Af.cells X2.out m).cell 4
                have c5 : ∀ m : Af wr, m.w.cell? ⟨w.heap.size, 5, none⟩ = some (.int .i64 t) := fun m => (Af.cells X2.out m).cell 5
                have c6 : ∀ m : Af wr, m.w.cell? ⟨w.heap.size, 6, none⟩ = some (.int .i64 j) := fun m => (Af.cells X2.out m).cell 6
                have c7 : ∀ m : Af wr, m.w.cell? ⟨w.heap.size, 7, none⟩ = some (.int .i64 r) := fun m => (Af.cells X2.out m).cell 7
                have c8 : ∀ m : Af wr, m.w.cell? ⟨w.heap.size, 8, none⟩ = some (.int .i64 n) := fun m => (Af.cells X2.out m).cell 8
                have k0 := Lib.hid (fun m => by have hh := specWa a b c d k m.w; rw [HG.out] at hh; exact hh : ∀ m : Af wr, Calls Tryd.prog 28 #[.agg #[.int .i64 a, .int .i64 b, .int .i64 c, .int .i64 d], .int .i64 k] m.w fun e w' => e = .returned (.int .i64 g) ∧ Below m.w.heap.size m.w w')
                refine bx.region_after (by kernel_rfl) (by kernel_rfl) ?_
                repeat (go_big_quiet_step ((go_at_call 28; with_reducible exact Af.call (k0.out _))))
                refine wpQuiet_nil ?_
                intro _ hw'
                obtain ⟨nq, hw''⟩ := hw'
                subst hw''
                have BQ := Lib.hid (B2.out.trans (nq.below.mono B2.out.size))
                have DQ := Lib.hid (D2.out.trans (nq.below.mono D2.out.size))
                obtain ⟨w5, hw5⟩ : ∃ w5, nq.w = w5 := ⟨_, rfl⟩
                rw [hw5] at BQ DQ
                rw [hw5]
                clear hw5 k0 c0 c1 c2 c3 c4 c5 c6 c7 c8
                by_cases hx : x = g
                · have HR := Lib.hid (show v2 = true by rw [← H2.out]; exact (rea_it H1.out).2 ⟨k, by omega, by rw [HI.out, hx]⟩)
                  subst hx
                  go_wp2_with fail
                  go_ret
                  rw [HV.out, HR.out]
                  exact ⟨by simp, BQ.out⟩
                · go_wp2_with fail
                  go_roundw
                  case rel => exact ⟨k + 1, by go_num, by omega, no_next NO.out (by rw [HI.out]; exact fun h => hx h.symm), DQ.out⟩
                  case measure => simp [intOf]; omega
              · have HR := Lib.hid (show v2 = false by rw [← H2.out]; exact rea_no H1.out (fun m hm => NO.out m (by omega)))
                go_wp2_with fail
                go_ret
                rw [HV.out, HR.out]
                exact ⟨by simp, B2.out⟩
          | false =>
            go_wp2_with fail
            go_ret
            rw [HV.out]
            exact ⟨by simp, B1.out⟩
        | false =>
          go_wp2_with fail
          go_ret
          rw [HV.out]
          exact ⟨by simp, B1.out⟩
      | false =>
        go_wp2_with fail
        go_ret
        rw [HV.out]
        exact ⟨by simp, B1.out⟩
    | false =>
      go_wp2_with fail
      go_ret
      rw [HV.out]
      exact ⟨by simp, B1.out⟩
  | false =>
    go_wp2_with fail
    go_ret
    rw [HV.out]
    exact ⟨by simp, B1.out⟩
set_option maxRecDepth 100000 in
set_option maxHeartbeats 4000000 in
theorem specRy (a b c d x t j r n : Int) (w : World) :
    Calls Tryd.prog 54 #[.agg #[.int .i64 a, .int .i64 b, .int .i64 c, .int .i64 d, .int .i64 x, .int .i64 t, .int .i64 j, .int .i64 r, .int .i64 n]] w (BPost (rdy ⟨a, b, c, d, x, t, j, r, n⟩) w) := by
  obtain ⟨v, hv⟩ : ∃ v, vb ⟨a, b, c, d, x, t, j, r, n⟩ = v := ⟨_, rfl⟩
  have HV := Lib.hid hv
  have HE := Lib.hid (show rdy ⟨a, b, c, d, x, t, j, r, n⟩ = (v && decide (j = a) && decide (t = 0)) by unfold rdy; rw [← hv])
  clear hv
  go_enter Tryd.func54, Tryd.ntmps54
  go_wp2_with fail
  obtain ⟨w0, hW⟩ : ∃ w0, w.alloc (.cells #[.int .i64 a, .int .i64 b, .int .i64 c, .int .i64 d, .int .i64 x, .int .i64 t, .int .i64 j, .int .i64 r, .int .i64 n] 28) = w0 := ⟨_, rfl⟩
  rw [hW]
  have B0 := Lib.hid (show Below w.heap.size w w0 by rw [← hW]; exact below_box _ _)
  have X0 := Lib.hid (show Bx 28 w0 w.heap.size #[.int .i64 a, .int .i64 b, .int .i64 c, .int .i64 d, .int .i64 x, .int .i64 t, .int .i64 j, .int .i64 r, .int .i64 n] by rw [← hW]; exact Bx.made _ _ _)
  clear hW
  have c0 : w0.cell? ⟨w.heap.size, 0, none⟩ = some (.int .i64 a) := X0.out.cell 0
  have c1 : w0.cell? ⟨w.heap.size, 1, none⟩ = some (.int .i64 b) := X0.out.cell 1
  have c2 : w0.cell? ⟨w.heap.size, 2, none⟩ = some (.int .i64 c) := X0.out.cell 2
  have c3 : w0.cell? ⟨w.heap.size, 3, none⟩ = some (.int .i64 d) := X0.out.cell 3
  have c4 : w0.cell? ⟨w.heap.size, 4, none⟩ = some (.int .i64 x) := X0.out.cell 4
  have c5 : w0.cell? ⟨w.heap.size, 5, none⟩ = some (.int .i64 t) := X0.out.cell 5
  have c6 : w0.cell? ⟨w.heap.size, 6, none⟩ = some (.int .i64 j) := X0.out.cell 6
  have c7 : w0.cell? ⟨w.heap.size, 7, none⟩ = some (.int .i64 r) := X0.out.cell 7
  have c8 : w0.cell? ⟨w.heap.size, 8, none⟩ = some (.int .i64 n) := X0.out.cell 8
  go_wp2_with fail
  (with_reducible refine (specVb a b c d x t j r n _).mono ?_)
  rintro e w1 hp
  obtain ⟨rfl, hb⟩ := b_parts HV.out hp
  clear hp
  have B1 := Lib.hid (B0.out.trans (hb.mono B0.out.size))
  have X1 := Lib.hid (X0.out.below hb)
  clear hb B0 X0
  clear c0 c1 c2 c3 c4 c5 c6 c7 c8
  have c0 : w1.cell? ⟨w.heap.size, 0, none⟩ = some (.int .i64 a) := X1.out.cell 0
  have c1 : w1.cell? ⟨w.heap.size, 1, none⟩ = some (.int .i64 b) := X1.out.cell 1
  have c2 : w1.cell? ⟨w.heap.size, 2, none⟩ = some (.int .i64 c) := X1.out.cell 2
  have c3 : w1.cell? ⟨w.heap.size, 3, none⟩ = some (.int .i64 d) := X1.out.cell 3
  have c4 : w1.cell? ⟨w.heap.size, 4, none⟩ = some (.int .i64 x) := X1.out.cell 4
  have c5 : w1.cell? ⟨w.heap.size, 5, none⟩ = some (.int .i64 t) := X1.out.cell 5
  have c6 : w1.cell? ⟨w.heap.size, 6, none⟩ = some (.int .i64 j) := X1.out.cell 6
  have c7 : w1.cell? ⟨w.heap.size, 7, none⟩ = some (.int .i64 r) := X1.out.cell 7
  have c8 : w1.cell? ⟨w.heap.size, 8, none⟩ = some (.int .i64 n) := X1.out.cell 8
  cases v with
  | true =>
    by_cases h1 : j = a
    · subst h1
      by_cases h2 : t = 0
      · subst h2
        go_wp2_with fail
        go_ret
        rw [HE.out]
        exact ⟨by simp, B1.out⟩
      · go_wp2_with fail
        go_ret
        rw [HE.out]
        exact ⟨by simp [h2], B1.out⟩
    · go_wp2_with fail
      go_ret
      rw [HE.out]
      exact ⟨by simp [h1], B1.out⟩
  | false =>
    go_wp2_with fail
    go_ret
    rw [HE.out]
    exact ⟨by simp, B1.out⟩
theorem square {x : Int} (h : 0 ≤ x ∧ x < 2147483647) : 0 ≤ x * x ∧ x * x ≤ 4611686014132420609 := by
  have h1 := Int.mul_nonneg h.1 h.1
  have h2 : x * x ≤ 2147483647 * 2147483647 := Int.mul_le_mul (by omega) (by omega) h.1 (by omega)
  omega
/-- What is reckoned of the hash. -/
theorem wt_parts {h x : Int} (hh : 0 ≤ h ∧ h < 2147483647) (hx : 0 ≤ x ∧ x ≤ 1023) : ∃ p q m u : Int, h * h = p ∧ 0 ≤ p ∧ p ≤ 4611686014132420609 ∧ p % 2147483647 = q ∧ p.tmod 2147483647 = q ∧ 0 ≤ q ∧ q ≤ 2147483646 ∧ x + 1 = m ∧ 1 ≤ m ∧ m ≤ 1024 ∧ q % m = u ∧ q.tmod m = u ∧ 0 ≤ u ∧ u ≤ 1023 := by
  have h1 := square hh
  have h2 := Int.emod_nonneg (h * h) (show (2147483647 : Int) ≠ 0 by omega)
  have h3 := Int.emod_lt_of_pos (h * h) (show (0 : Int) < 2147483647 by omega)
  have h4 := Int.emod_nonneg (h * h % 2147483647) (show x + 1 ≠ 0 by omega)
  have h5 := Int.emod_lt_of_pos (h * h % 2147483647) (show 0 < x + 1 by omega)
  exact ⟨_, _, _, _, rfl, h1.1, h1.2, rfl, Int.tmod_eq_emod_of_nonneg h1.1, h2, by omega, rfl, by omega, by omega, rfl, Int.tmod_eq_emod_of_nonneg h2, h4, by omega⟩
set_option maxRecDepth 100000 in
set_option maxHeartbeats 4000000 in
theorem implRw (s n x : Int) (hs : (Lit.int .i64 s).wf = true) (hn : (Lit.int .i64 n).wf = true) (w : World) :
    Calls Tryd.prog 14 #[.int .i64 s, .int .i64 n, .int .i64 x] w (NPost (wt s n x) w) := by
  have HS := Lib.hid hs
  have HN := Lib.hid hn
  clear hs hn
  by_cases hr : 0 ≤ x ∧ x ≤ 1023
  · obtain ⟨g, hg⟩ : ∃ g, hsh.kh s [n] = g := ⟨_, rfl⟩
    have HG := Lib.hid hg
    have hg0 : 0 ≤ g ∧ g < 2147483647 := by rw [← hg]; exact hsh.kh_in _ _
    obtain ⟨p, q, m, u, e1, g1, g2, e2, e3, g3, g4, e4, g5, g6, e5, e6, g7, g8⟩ := wt_parts hg0 hr
    have HE := Lib.hid (show wt s n x = u by unfold wt; rw [if_pos hr, hg, e1, e2, e4, e5])
    have HD := Lib.hid (decide_eq_true hr)
    have HB := Lib.hid ((Below.refl w.heap.size w).alloc (Nat.le_refl _) (.cells #[.int .i64 n] 3))
    clear hg hr e2 e5
    have m4 : IntKind.i64.wrap m = m := IntWalk.i64_in _ (by omega)
    go_enter Tryd.func14, Tryd.ntmps14
    go_wp2_with fail
    (with_reducible refine (inR x 0 1023 true _ HD.out).mono ?_)
    rintro e w1 ⟨rfl, rfl⟩
    go_wp2_with fail
    (with_reducible refine (hsh.implKh s HS.out [n] _ _ _ 1 1 _ (Rd.one .i64 _ _ _ HN.out) (by omega)).mono ?_)
    rintro e w2 hpost
    obtain ⟨rfl, hb⟩ := hpost.parts HG.out
    have HB2 := Lib.hid (HB.out.trans (hb.mono HB.out.size))
    clear hb hpost
    go_wp2_with fail
    go_ret
    exact ⟨by rw [HE.out]; rfl, HB2.out⟩
  · have HE := Lib.hid (show wt s n x = 0 by unfold wt; rw [if_neg hr])
    have HD := Lib.hid (decide_eq_false hr)
    clear hr
    go_enter Tryd.func14, Tryd.ntmps14
    go_wp2_with fail
    (with_reducible refine (inR x 0 1023 false _ HD.out).mono ?_)
    rintro e w1 ⟨rfl, rfl⟩
    go_wp2_with fail
    go_ret
    exact ⟨by rw [HE.out]; rfl, Below.refl _ _⟩
set_option maxRecDepth 100000 in
set_option maxHeartbeats 4000000 in
theorem specRw (s n x : Int) (hs : (Lit.int .i64 s).wf = true) (hn : (Lit.int .i64 n).wf = true) (w : World) :
    Calls Tryd.prog 31 #[.int .i64 s, .int .i64 n, .int .i64 x] w (NPost (wt s n x) w) := by
  have HS := Lib.hid hs
  have HN := Lib.hid hn
  clear hs hn
  by_cases hr : 0 ≤ x ∧ x ≤ 1023
  · obtain ⟨g, hg⟩ : ∃ g, hsh.kh s [n] = g := ⟨_, rfl⟩
    have HG := Lib.hid hg
    have hg0 : 0 ≤ g ∧ g < 2147483647 := by rw [← hg]; exact hsh.kh_in _ _
    obtain ⟨p, q, m, u, e1, g1, g2, e2, e3, g3, g4, e4, g5, g6, e5, e6, g7, g8⟩ := wt_parts hg0 hr
    have HE := Lib.hid (show wt s n x = u by unfold wt; rw [if_pos hr, hg, e1, e2, e4, e5])
    have HD := Lib.hid (decide_eq_true hr)
    have HB := Lib.hid ((Below.refl w.heap.size w).alloc (Nat.le_refl _) (.cells #[.int .i64 n] 3))
    clear hg hr e2 e5
    have m4 : IntKind.i64.wrap m = m := IntWalk.i64_in _ (by omega)
    go_enter Tryd.func31, Tryd.ntmps31
    go_wp2_with fail
    (with_reducible refine (l1R x 0 1023 true _ HD.out).mono ?_)
    rintro e w1 ⟨rfl, rfl⟩
    go_wp2_with fail
    (with_reducible refine (hsh.specKh s HS.out [n] _ _ _ 1 1 _ (Rd.one .i64 _ _ _ HN.out) (by omega)).mono ?_)
    rintro e w2 hpost
    obtain ⟨rfl, hb⟩ := hpost.parts HG.out
    have HB2 := Lib.hid (HB.out.trans (hb.mono HB.out.size))
    clear hb hpost
    go_wp2_with fail
    go_ret
    exact ⟨by rw [HE.out]; rfl, HB2.out⟩
  · have HE := Lib.hid (show wt s n x = 0 by unfold wt; rw [if_neg hr])
    have HD := Lib.hid (decide_eq_false hr)
    clear hr
    go_enter Tryd.func31, Tryd.ntmps31
    go_wp2_with fail
    (with_reducible refine (l1R x 0 1023 false _ HD.out).mono ?_)
    rintro e w1 ⟨rfl, rfl⟩
    go_wp2_with fail
    go_ret
    exact ⟨by rw [HE.out]; rfl, Below.refl _ _⟩
end Go.Proofs.YtkfkfejjhfkobaaDoor.bx
