/- EqualFrames, program and specification. Condition: none. -/
import Derived.Test.YtnnlkkohbjolaaaFb3
import Derived.Test.YtnnlkkohbjolaaaEq
import Derived.Deep.RegionHeld3
import Derived.Deep.RegionWith
namespace Go.Proofs.Ytnnlkkohbjolaaa.fbx
open Go.RowKit sl harn rng frm
set_option linter.unusedVariables false
/-- Two frames are equal. -/
def eqf (x y : Fm) : Bool := decide (nums x = nums y) && decide (x.z = y.z)
theorem fl_inj : ∀ (m r m' r' : Bool), fl m r = fl m' r' → m = m' ∧ r = r' := by decide
theorem eqf_no {x y : Fm} (h : ¬ nums x = nums y) : eqf x y = false := by unfold eqf; rw [decide_eq_false h]; rfl
theorem eqf_at {x y : Fm} (i : Nat) (h : ¬ (nums x).getD i 0 = (nums y).getD i 0) : eqf x y = false := eqf_no fun e => h (by rw [e])
theorem eqf_yes {x y : Fm} (h : nums x = nums y) : eqf x y = decide (x.z = y.z) := by unfold eqf; rw [decide_eq_true h]; rfl
theorem eqf_self (x : Fm) : eqf x x = true := by rw [eqf_yes rfl]; exact decide_eq_true rfl

set_option maxRecDepth 100000 in
set_option maxHeartbeats 4000000 in
theorem specEqf (k f t s g : Int) (m r : Bool) (d : Int) (A : Option Addr) (n cap : Nat) (k' f' t' s' g' : Int) (m' r' : Bool) (d' : Int) (A' : Option Addr) (n' cap' : Nat) (z z' : List Int) (lo hi lo2 hi2 : Nat) (w : World) (h : Rd .u8 w lo hi A n cap z) (h2 : Rd .u8 w lo2 hi2 A' n' cap' z') :
    Calls Try.prog 39 #[.agg #[.int .i64 k, .int .i64 f, .int .i64 t, .int .i64 s, .int .i64 g, .bool m, .bool r, .int .i64 d, .slice A n cap], .agg #[.int .i64 k', .int .i64 f', .int .i64 t', .int .i64 s', .int .i64 g', .bool m', .bool r', .int .i64 d', .slice A' n' cap']] w (BPost (eqf ⟨k, f, t, s, g, m, r, d, z⟩ ⟨k', f', t', s', g', m', r', d', z'⟩) w) := by
  obtain ⟨v, hv⟩ : ∃ v, eqf ⟨k, f, t, s, g, m, r, d, z⟩ ⟨k', f', t', s', g', m', r', d', z'⟩ = v := ⟨_, rfl⟩
  have HV := Lib.hid hv
  rw [hv]
  have HR := Lib.hid h
  have HS := Lib.hid h2
  clear h h2 hv
  by_cases hh : k = k'
  · subst hh
    by_cases hh : f = f'
    · subst hh
      by_cases hh : t = t'
      · subst hh
        by_cases hh : s = s'
        · subst hh
          by_cases hh : g = g'
          · subst hh
            by_cases hh : m = m'
            · subst hh
              by_cases hh : r = r'
              · subst hh
                by_cases hh : d = d'
                · subst hh
                  obtain ⟨c, hc⟩ : ∃ c, decide (z = z') = c := ⟨_, rfl⟩
                  have HC := Lib.hid hc
                  have E := Lib.hid (show v = c by rw [← HV.out, ← hc]; exact eqf_yes rfl)
                  clear hc HV
                  go_enter Try.func39, Try.ntmps39
                  go_wp2_with fail
                  (with_reducible refine (eqs.specEqB z z' _ _ _ _ A A' n cap n' cap' _ (HR.out.below (below_box2 _ _ _)) (HS.out.below (below_box2 _ _ _))).mono ?_)
                  rintro e w1 hp
                  obtain ⟨rfl, hb⟩ := eqs.EqPost_parts HC.out hp
                  have B1 := Lib.hid ((below_box2 w _ _).trans (hb.mono (by simp; omega)))
                  clear hb hp
                  go_wp2_with fail
                  go_ret
                  rw [E.out]
                  exact ⟨rfl, B1.out⟩
                · have hn : (d == d') = false := by simpa using hh
                  have E := Lib.hid (show v = false by rw [← HV.out]; exact eqf_at 6 hh)
                  clear hh
                  clear HV
                  go_enter Try.func39, Try.ntmps39
                  go_wp2_with fail
                  go_ret
                  rw [E.out]
                  exact ⟨rfl, below_box2 _ _ _⟩
              · have hn : (r == r') = false := by simpa using hh
                have E := Lib.hid (show v = false by rw [← HV.out]; exact eqf_at 5 (fun e => hh (fl_inj _ _ _ _ e).2))
                clear hh
                clear HV
                go_enter Try.func39, Try.ntmps39
                go_wp2_with fail
                go_ret
                rw [E.out]
                exact ⟨rfl, below_box2 _ _ _⟩
            · have hn : (m == m') = false := by simpa using hh
              have E := Lib.hid (show v = false by rw [← HV.out]; exact eqf_at 5 (fun e => hh (fl_inj _ _ _ _ e).1))
              clear hh
              clear HV
              go_enter Try.func39, Try.ntmps39
              go_wp2_with fail
              go_ret
              rw [E.out]
              exact ⟨rfl, below_box2 _ _ _⟩
          · have hn : (g == g') = false := by simpa using hh
            have E := Lib.hid (show v = false by rw [← HV.out]; exact eqf_at 4 hh)
            clear hh
            clear HV
            go_enter Try.func39, Try.ntmps39
            go_wp2_with fail
            go_ret
            rw [E.out]
            exact ⟨rfl, below_box2 _ _ _⟩
        · have hn : (s == s') = false := by simpa using hh
          have E := Lib.hid (show v = false by rw [← HV.out]; exact eqf_at 3 hh)
          clear hh
          clear HV
          go_enter Try.func39, Try.ntmps39
          go_wp2_with fail
          go_ret
          rw [E.out]
          exact ⟨rfl, below_box2 _ _ _⟩
      · have hn : (t == t') = false := by simpa using hh
        have E := Lib.hid (show v = false by rw [← HV.out]; exact eqf_at 2 hh)
        clear hh
        clear HV
        go_enter Try.func39, Try.ntmps39
        go_wp2_with fail
        go_ret
        rw [E.out]
        exact ⟨rfl, below_box2 _ _ _⟩
    · have hn : (f == f') = false := by simpa using hh
      have E := Lib.hid (show v = false by rw [← HV.out]; exact eqf_at 1 hh)
      clear hh
      clear HV
      go_enter Try.func39, Try.ntmps39
      go_wp2_with fail
      go_ret
      rw [E.out]
      exact ⟨rfl, below_box2 _ _ _⟩
  · have hn : (k == k') = false := by simpa using hh
    have E := Lib.hid (show v = false by rw [← HV.out]; exact eqf_at 0 hh)
    clear hh
    clear HV
    go_enter Try.func39, Try.ntmps39
    go_wp2_with fail
    go_ret
    rw [E.out]
    exact ⟨rfl, below_box2 _ _ _⟩
set_option maxRecDepth 100000 in
set_option maxHeartbeats 4000000 in
theorem implEqf (k f t s g : Int) (m r : Bool) (d : Int) (A : Option Addr) (n cap : Nat) (k' f' t' s' g' : Int) (m' r' : Bool) (d' : Int) (A' : Option Addr) (n' cap' : Nat) (z z' : List Int) (lo hi lo2 hi2 : Nat) (w : World) (hw : Wf .i64 (nums ⟨k, f, t, s, g, m, r, d, []⟩)) (hw2 : Wf .i64 (nums ⟨k', f', t', s', g', m', r', d', []⟩)) (h : Rd .u8 w lo hi A n cap z) (h2 : Rd .u8 w lo2 hi2 A' n' cap' z') :
    Calls Try.prog 21 #[.agg #[.int .i64 k, .int .i64 f, .int .i64 t, .int .i64 s, .int .i64 g, .bool m, .bool r, .int .i64 d, .slice A n cap], .agg #[.int .i64 k', .int .i64 f', .int .i64 t', .int .i64 s', .int .i64 g', .bool m', .bool r', .int .i64 d', .slice A' n' cap']] w (BPost (eqf ⟨k, f, t, s, g, m, r, d, z⟩ ⟨k', f', t', s', g', m', r', d', z'⟩) w) := by
  obtain ⟨NL, hNL⟩ : ∃ l, nums ⟨k, f, t, s, g, m, r, d, []⟩ = l := ⟨_, rfl⟩
  obtain ⟨ML, hML⟩ : ∃ l, nums ⟨k', f', t', s', g', m', r', d', []⟩ = l := ⟨_, rfl⟩
  have HNL := Lib.hid hNL
  have HML := Lib.hid hML
  have HE := Lib.hid (show eqf ⟨k, f, t, s, g, m, r, d, z⟩ ⟨k', f', t', s', g', m', r', d', z'⟩ = (decide (NL = ML) && decide (z = z')) by rw [← hNL, ← hML]; rfl)
  rw [HE.out]
  have HW := Lib.hid hw
  have HW2 := Lib.hid hw2
  have HR := Lib.hid h
  have HS := Lib.hid h2
  clear h h2 hw hw2 hNL hML
  obtain ⟨p, hp⟩ : ∃ p, decide (NL = ML) = p := ⟨_, rfl⟩
  obtain ⟨q, hq⟩ : ∃ q, decide (z = z') = q := ⟨_, rfl⟩
  rw [hp, hq]
  have HP := Lib.hid hp
  have HQ := Lib.hid hq
  clear hp hq HE
  cases p with
  | false =>
    go_enter Try.func21, Try.ntmps21
    go_wp2_with fail
    obtain ⟨w1, hW⟩ : ∃ w1, (w.alloc (.cells #[.int .i64 k, .int .i64 f, .int .i64 t, .int .i64 s, .int .i64 g, .bool m, .bool r, .int .i64 d, .slice A n cap] 25)).alloc (.cells #[.int .i64 k', .int .i64 f', .int .i64 t', .int .i64 s', .int .i64 g', .bool m', .bool r', .int .i64 d', .slice A' n' cap'] 25) = w1 := ⟨_, rfl⟩
    rw [hW]
    have B2 := Lib.hid (show Below w.heap.size w w1.drew from own.below_drew (show Below w.heap.size w w1 by rw [← hW]; exact below_box2 _ _ _))
    have X2 := Lib.hid (show Bx 25 w1.drew w.heap.size #[.int .i64 k, .int .i64 f, .int .i64 t, .int .i64 s, .int .i64 g, .bool m, .bool r, .int .i64 d, .slice A n cap] from (show Bx 25 w1 w.heap.size #[.int .i64 k, .int .i64 f, .int .i64 t, .int .i64 s, .int .i64 g, .bool m, .bool r, .int .i64 d, .slice A n cap] by rw [← hW]; exact (Bx.made _ w _).below (below_box _ _)).same rfl)
    have Y2 := Lib.hid (show Bx 25 w1.drew (w.heap.size + 1) #[.int .i64 k', .int .i64 f', .int .i64 t', .int .i64 s', .int .i64 g', .bool m', .bool r', .int .i64 d', .slice A' n' cap'] from (show Bx 25 w1 (w.heap.size + 1) #[.int .i64 k', .int .i64 f', .int .i64 t', .int .i64 s', .int .i64 g', .bool m', .bool r', .int .i64 d', .slice A' n' cap'] by rw [← hW]; have hh := Bx.made 25 (w.alloc (.cells #[.int .i64 k, .int .i64 f, .int .i64 t, .int .i64 s, .int .i64 g, .bool m, .bool r, .int .i64 d, .slice A n cap] 25)) #[.int .i64 k', .int .i64 f', .int .i64 t', .int .i64 s', .int .i64 g', .bool m', .bool r', .int .i64 d', .slice A' n' cap']; simpa using hh).same rfl)
    clear hW
    have c2_0 : w1.drew.cell? ⟨w.heap.size, 0, none⟩ = some (.int .i64 k) := X2.out.cell 0
    have c2_1 : w1.drew.cell? ⟨w.heap.size, 1, none⟩ = some (.int .i64 f) := X2.out.cell 1
    have c2_2 : w1.drew.cell? ⟨w.heap.size, 2, none⟩ = some (.int .i64 t) := X2.out.cell 2
    have c2_3 : w1.drew.cell? ⟨w.heap.size, 3, none⟩ = some (.int .i64 s) := X2.out.cell 3
    have c2_4 : w1.drew.cell? ⟨w.heap.size, 4, none⟩ = some (.int .i64 g) := X2.out.cell 4
    have c2_5 : w1.drew.cell? ⟨w.heap.size, 5, none⟩ = some (.bool m) := X2.out.cell 5
    have c2_6 : w1.drew.cell? ⟨w.heap.size, 6, none⟩ = some (.bool r) := X2.out.cell 6
    have c2_7 : w1.drew.cell? ⟨w.heap.size, 7, none⟩ = some (.int .i64 d) := X2.out.cell 7
    have c2_8 : w1.drew.cell? ⟨w.heap.size, 8, none⟩ = some (.slice A n cap) := X2.out.cell 8
    have e2_0 : w1.drew.cell? ⟨w.heap.size + 1, 0, none⟩ = some (.int .i64 k') := Y2.out.cell 0
    have e2_1 : w1.drew.cell? ⟨w.heap.size + 1, 1, none⟩ = some (.int .i64 f') := Y2.out.cell 1
    have e2_2 : w1.drew.cell? ⟨w.heap.size + 1, 2, none⟩ = some (.int .i64 t') := Y2.out.cell 2
    have e2_3 : w1.drew.cell? ⟨w.heap.size + 1, 3, none⟩ = some (.int .i64 s') := Y2.out.cell 3
    have e2_4 : w1.drew.cell? ⟨w.heap.size + 1, 4, none⟩ = some (.int .i64 g') := Y2.out.cell 4
    have e2_5 : w1.drew.cell? ⟨w.heap.size + 1, 5, none⟩ = some (.bool m') := Y2.out.cell 5
    have e2_6 : w1.drew.cell? ⟨w.heap.size + 1, 6, none⟩ = some (.bool r') := Y2.out.cell 6
    have e2_7 : w1.drew.cell? ⟨w.heap.size + 1, 7, none⟩ = some (.int .i64 d') := Y2.out.cell 7
    have e2_8 : w1.drew.cell? ⟨w.heap.size + 1, 8, none⟩ = some (.slice A' n' cap') := Y2.out.cell 8
    first
    | (go_region_with (first
      | (have g9 := O3; clear g9; go_at_call 50; refine (implNums k' f' t' s' g' m' r' d' A' n' cap' _ HW2.out).mono ?_; rintro e w4 ⟨A4, n4, cap4, rfl, ho, hb⟩; have X4 := Lib.hid (X3.out.below hb); have Y4 := Lib.hid (Y3.out.below hb); have B4 := Lib.hid (B3.out.trans (hb.mono B3.out.size)); have O4 := Lib.hid (show Ow 3 .i64 w4 _ _ A4 n4 cap4 ML by rw [← HML.out]; exact ho); have O34 := Lib.hid (O3.out.below hb); have c4_0 : w4.cell? ⟨w.heap.size, 0, none⟩ = some (.int .i64 k) := X4.out.cell 0; have c4_1 : w4.cell? ⟨w.heap.size, 1, none⟩ = some (.int .i64 f) := X4.out.cell 1; have c4_2 : w4.cell? ⟨w.heap.size, 2, none⟩ = some (.int .i64 t) := X4.out.cell 2; have c4_3 : w4.cell? ⟨w.heap.size, 3, none⟩ = some (.int .i64 s) := X4.out.cell 3; have c4_4 : w4.cell? ⟨w.heap.size, 4, none⟩ = some (.int .i64 g) := X4.out.cell 4; have c4_5 : w4.cell? ⟨w.heap.size, 5, none⟩ = some (.bool m) := X4.out.cell 5; have c4_6 : w4.cell? ⟨w.heap.size, 6, none⟩ = some (.bool r) := X4.out.cell 6; have c4_7 : w4.cell? ⟨w.heap.size, 7, none⟩ = some (.int .i64 d) := X4.out.cell 7; have c4_8 : w4.cell? ⟨w.heap.size, 8, none⟩ = some (.slice A n cap) := X4.out.cell 8; have e4_0 : w4.cell? ⟨w.heap.size + 1, 0, none⟩ = some (.int .i64 k') := Y4.out.cell 0; have e4_1 : w4.cell? ⟨w.heap.size + 1, 1, none⟩ = some (.int .i64 f') := Y4.out.cell 1; have e4_2 : w4.cell? ⟨w.heap.size + 1, 2, none⟩ = some (.int .i64 t') := Y4.out.cell 2; have e4_3 : w4.cell? ⟨w.heap.size + 1, 3, none⟩ = some (.int .i64 s') := Y4.out.cell 3; have e4_4 : w4.cell? ⟨w.heap.size + 1, 4, none⟩ = some (.int .i64 g') := Y4.out.cell 4; have e4_5 : w4.cell? ⟨w.heap.size + 1, 5, none⟩ = some (.bool m') := Y4.out.cell 5; have e4_6 : w4.cell? ⟨w.heap.size + 1, 6, none⟩ = some (.bool r') := Y4.out.cell 6; have e4_7 : w4.cell? ⟨w.heap.size + 1, 7, none⟩ = some (.int .i64 d') := Y4.out.cell 7; have e4_8 : w4.cell? ⟨w.heap.size + 1, 8, none⟩ = some (.slice A' n' cap') := Y4.out.cell 8; clear hb)
      | (go_at_call 50; refine (implNums k f t s g m r d A n cap _ HW.out).mono ?_; rintro e w3 ⟨A3, n3, cap3, rfl, ho, hb⟩; have X3 := Lib.hid (X2.out.below hb); have Y3 := Lib.hid (Y2.out.below hb); have B3 := Lib.hid (B2.out.trans (hb.mono B2.out.size)); have O3 := Lib.hid (show Ow 3 .i64 w3 _ _ A3 n3 cap3 NL by rw [← HNL.out]; exact ho); have c3_0 : w3.cell? ⟨w.heap.size, 0, none⟩ = some (.int .i64 k) := X3.out.cell 0; have c3_1 : w3.cell? ⟨w.heap.size, 1, none⟩ = some (.int .i64 f) := X3.out.cell 1; have c3_2 : w3.cell? ⟨w.heap.size, 2, none⟩ = some (.int .i64 t) := X3.out.cell 2; have c3_3 : w3.cell? ⟨w.heap.size, 3, none⟩ = some (.int .i64 s) := X3.out.cell 3; have c3_4 : w3.cell? ⟨w.heap.size, 4, none⟩ = some (.int .i64 g) := X3.out.cell 4; have c3_5 : w3.cell? ⟨w.heap.size, 5, none⟩ = some (.bool m) := X3.out.cell 5; have c3_6 : w3.cell? ⟨w.heap.size, 6, none⟩ = some (.bool r) := X3.out.cell 6; have c3_7 : w3.cell? ⟨w.heap.size, 7, none⟩ = some (.int .i64 d) := X3.out.cell 7; have c3_8 : w3.cell? ⟨w.heap.size, 8, none⟩ = some (.slice A n cap) := X3.out.cell 8; have e3_0 : w3.cell? ⟨w.heap.size + 1, 0, none⟩ = some (.int .i64 k') := Y3.out.cell 0; have e3_1 : w3.cell? ⟨w.heap.size + 1, 1, none⟩ = some (.int .i64 f') := Y3.out.cell 1; have e3_2 : w3.cell? ⟨w.heap.size + 1, 2, none⟩ = some (.int .i64 t') := Y3.out.cell 2; have e3_3 : w3.cell? ⟨w.heap.size + 1, 3, none⟩ = some (.int .i64 s') := Y3.out.cell 3; have e3_4 : w3.cell? ⟨w.heap.size + 1, 4, none⟩ = some (.int .i64 g') := Y3.out.cell 4; have e3_5 : w3.cell? ⟨w.heap.size + 1, 5, none⟩ = some (.bool m') := Y3.out.cell 5; have e3_6 : w3.cell? ⟨w.heap.size + 1, 6, none⟩ = some (.bool r') := Y3.out.cell 6; have e3_7 : w3.cell? ⟨w.heap.size + 1, 7, none⟩ = some (.int .i64 d') := Y3.out.cell 7; have e3_8 : w3.cell? ⟨w.heap.size + 1, 8, none⟩ = some (.slice A' n' cap') := Y3.out.cell 8; clear hb)
      | (go_at_call 60; refine (eqs.implEqI NL ML _ _ _ _ A3 A4 n3 cap3 n4 cap4 _ O34.out.rd O4.out.rd).mono ?_; rintro e w5 hpp; obtain ⟨rfl, hb⟩ := eqs.EqPost_parts HP.out hpp; have X5 := Lib.hid (X4.out.below hb); have Y5 := Lib.hid (Y4.out.below hb); have B5 := Lib.hid (B4.out.trans (hb.mono B4.out.size)); clear hpp; have c5_0 : w5.cell? ⟨w.heap.size, 0, none⟩ = some (.int .i64 k) := X5.out.cell 0; have c5_1 : w5.cell? ⟨w.heap.size, 1, none⟩ = some (.int .i64 f) := X5.out.cell 1; have c5_2 : w5.cell? ⟨w.heap.size, 2, none⟩ = some (.int .i64 t) := X5.out.cell 2; have c5_3 : w5.cell? ⟨w.heap.size, 3, none⟩ = some (.int .i64 s) := X5.out.cell 3; have c5_4 : w5.cell? ⟨w.heap.size, 4, none⟩ = some (.int .i64 g) := X5.out.cell 4; have c5_5 : w5.cell? ⟨w.heap.size, 5, none⟩ = some (.bool m) := X5.out.cell 5; have c5_6 : w5.cell? ⟨w.heap.size, 6, none⟩ = some (.bool r) := X5.out.cell 6; have c5_7 : w5.cell? ⟨w.heap.size, 7, none⟩ = some (.int .i64 d) := X5.out.cell 7; have c5_8 : w5.cell? ⟨w.heap.size, 8, none⟩ = some (.slice A n cap) := X5.out.cell 8; have e5_0 : w5.cell? ⟨w.heap.size + 1, 0, none⟩ = some (.int .i64 k') := Y5.out.cell 0; have e5_1 : w5.cell? ⟨w.heap.size + 1, 1, none⟩ = some (.int .i64 f') := Y5.out.cell 1; have e5_2 : w5.cell? ⟨w.heap.size + 1, 2, none⟩ = some (.int .i64 t') := Y5.out.cell 2; have e5_3 : w5.cell? ⟨w.heap.size + 1, 3, none⟩ = some (.int .i64 s') := Y5.out.cell 3; have e5_4 : w5.cell? ⟨w.heap.size + 1, 4, none⟩ = some (.int .i64 g') := Y5.out.cell 4; have e5_5 : w5.cell? ⟨w.heap.size + 1, 5, none⟩ = some (.bool m') := Y5.out.cell 5; have e5_6 : w5.cell? ⟨w.heap.size + 1, 6, none⟩ = some (.bool r') := Y5.out.cell 6; have e5_7 : w5.cell? ⟨w.heap.size + 1, 7, none⟩ = some (.int .i64 d') := Y5.out.cell 7; have e5_8 : w5.cell? ⟨w.heap.size + 1, 8, none⟩ = some (.slice A' n' cap') := Y5.out.cell 8; clear hb)))
    | fail
    all_goals
      go_wp2_with fail
      go_ret
      exact ⟨rfl, B5.out⟩
  | true =>
    go_enter Try.func21, Try.ntmps21
    go_wp2_with fail
    obtain ⟨w1, hW⟩ : ∃ w1, (w.alloc (.cells #[.int .i64 k, .int .i64 f, .int .i64 t, .int .i64 s, .int .i64 g, .bool m, .bool r, .int .i64 d, .slice A n cap] 25)).alloc (.cells #[.int .i64 k', .int .i64 f', .int .i64 t', .int .i64 s', .int .i64 g', .bool m', .bool r', .int .i64 d', .slice A' n' cap'] 25) = w1 := ⟨_, rfl⟩
    rw [hW]
    have B2 := Lib.hid (show Below w.heap.size w w1.drew from own.below_drew (show Below w.heap.size w w1 by rw [← hW]; exact below_box2 _ _ _))
    have X2 := Lib.hid (show Bx 25 w1.drew w.heap.size #[.int .i64 k, .int .i64 f, .int .i64 t, .int .i64 s, .int .i64 g, .bool m, .bool r, .int .i64 d, .slice A n cap] from (show Bx 25 w1 w.heap.size #[.int .i64 k, .int .i64 f, .int .i64 t, .int .i64 s, .int .i64 g, .bool m, .bool r, .int .i64 d, .slice A n cap] by rw [← hW]; exact (Bx.made _ w _).below (below_box _ _)).same rfl)
    have Y2 := Lib.hid (show Bx 25 w1.drew (w.heap.size + 1) #[.int .i64 k', .int .i64 f', .int .i64 t', .int .i64 s', .int .i64 g', .bool m', .bool r', .int .i64 d', .slice A' n' cap'] from (show Bx 25 w1 (w.heap.size + 1) #[.int .i64 k', .int .i64 f', .int .i64 t', .int .i64 s', .int .i64 g', .bool m', .bool r', .int .i64 d', .slice A' n' cap'] by rw [← hW]; have hh := Bx.made 25 (w.alloc (.cells #[.int .i64 k, .int .i64 f, .int .i64 t, .int .i64 s, .int .i64 g, .bool m, .bool r, .int .i64 d, .slice A n cap] 25)) #[.int .i64 k', .int .i64 f', .int .i64 t', .int .i64 s', .int .i64 g', .bool m', .bool r', .int .i64 d', .slice A' n' cap']; simpa using hh).same rfl)
    clear hW
    have c2_0 : w1.drew.cell? ⟨w.heap.size, 0, none⟩ = some (.int .i64 k) := X2.out.cell 0
    have c2_1 : w1.drew.cell? ⟨w.heap.size, 1, none⟩ = some (.int .i64 f) := X2.out.cell 1
    have c2_2 : w1.drew.cell? ⟨w.heap.size, 2, none⟩ = some (.int .i64 t) := X2.out.cell 2
    have c2_3 : w1.drew.cell? ⟨w.heap.size, 3, none⟩ = some (.int .i64 s) := X2.out.cell 3
    have c2_4 : w1.drew.cell? ⟨w.heap.size, 4, none⟩ = some (.int .i64 g) := X2.out.cell 4
    have c2_5 : w1.drew.cell? ⟨w.heap.size, 5, none⟩ = some (.bool m) := X2.out.cell 5
    have c2_6 : w1.drew.cell? ⟨w.heap.size, 6, none⟩ = some (.bool r) := X2.out.cell 6
    have c2_7 : w1.drew.cell? ⟨w.heap.size, 7, none⟩ = some (.int .i64 d) := X2.out.cell 7
    have c2_8 : w1.drew.cell? ⟨w.heap.size, 8, none⟩ = some (.slice A n cap) := X2.out.cell 8
    have e2_0 : w1.drew.cell? ⟨w.heap.size + 1, 0, none⟩ = some (.int .i64 k') := Y2.out.cell 0
    have e2_1 : w1.drew.cell? ⟨w.heap.size + 1, 1, none⟩ = some (.int .i64 f') := Y2.out.cell 1
    have e2_2 : w1.drew.cell? ⟨w.heap.size + 1, 2, none⟩ = some (.int .i64 t') := Y2.out.cell 2
    have e2_3 : w1.drew.cell? ⟨w.heap.size + 1, 3, none⟩ = some (.int .i64 s') := Y2.out.cell 3
    have e2_4 : w1.drew.cell? ⟨w.heap.size + 1, 4, none⟩ = some (.int .i64 g') := Y2.out.cell 4
    have e2_5 : w1.drew.cell? ⟨w.heap.size + 1, 5, none⟩ = some (.bool m') := Y2.out.cell 5
    have e2_6 : w1.drew.cell? ⟨w.heap.size + 1, 6, none⟩ = some (.bool r') := Y2.out.cell 6
    have e2_7 : w1.drew.cell? ⟨w.heap.size + 1, 7, none⟩ = some (.int .i64 d') := Y2.out.cell 7
    have e2_8 : w1.drew.cell? ⟨w.heap.size + 1, 8, none⟩ = some (.slice A' n' cap') := Y2.out.cell 8
    go_region_held3 (fun w' => w'.cell? ⟨w.heap.size, 0, none⟩ = some (.int .i64 k) ∧ w'.cell? ⟨w.heap.size, 1, none⟩ = some (.int .i64 f) ∧ w'.cell? ⟨w.heap.size, 2, none⟩ = some (.int .i64 t) ∧ w'.cell? ⟨w.heap.size, 3, none⟩ = some (.int .i64 s) ∧ w'.cell? ⟨w.heap.size, 4, none⟩ = some (.int .i64 g) ∧ w'.cell? ⟨w.heap.size, 5, none⟩ = some (.bool m) ∧ w'.cell? ⟨w.heap.size, 6, none⟩ = some (.bool r) ∧ w'.cell? ⟨w.heap.size, 7, none⟩ = some (.int .i64 d) ∧ w'.cell? ⟨w.heap.size, 8, none⟩ = some (.slice A n cap) ∧ w'.cell? ⟨w.heap.size + 1, 0, none⟩ = some (.int .i64 k') ∧ w'.cell? ⟨w.heap.size + 1, 1, none⟩ = some (.int .i64 f') ∧ w'.cell? ⟨w.heap.size + 1, 2, none⟩ = some (.int .i64 t') ∧ w'.cell? ⟨w.heap.size + 1, 3, none⟩ = some (.int .i64 s') ∧ w'.cell? ⟨w.heap.size + 1, 4, none⟩ = some (.int .i64 g') ∧ w'.cell? ⟨w.heap.size + 1, 5, none⟩ = some (.bool m') ∧ w'.cell? ⟨w.heap.size + 1, 6, none⟩ = some (.bool r') ∧ w'.cell? ⟨w.heap.size + 1, 7, none⟩ = some (.int .i64 d') ∧ w'.cell? ⟨w.heap.size + 1, 8, none⟩ = some (.slice A' n' cap')) (first | exact ⟨c2_0, c2_1, c2_2, c2_3, c2_4, c2_5, c2_6, c2_7, c2_8, e2_0, e2_1, e2_2, e2_3, e2_4, e2_5, e2_6, e2_7, e2_8⟩ | exact ⟨c3_0, c3_1, c3_2, c3_3, c3_4, c3_5, c3_6, c3_7, c3_8, e3_0, e3_1, e3_2, e3_3, e3_4, e3_5, e3_6, e3_7, e3_8⟩ | exact ⟨c4_0, c4_1, c4_2, c4_3, c4_4, c4_5, c4_6, c4_7, c4_8, e4_0, e4_1, e4_2, e4_3, e4_4, e4_5, e4_6, e4_7, e4_8⟩ | exact ⟨c5_0, c5_1, c5_2, c5_3, c5_4, c5_5, c5_6, c5_7, c5_8, e5_0, e5_1, e5_2, e5_3, e5_4, e5_5, e5_6, e5_7, e5_8⟩ | exact ⟨c6_0, c6_1, c6_2, c6_3, c6_4, c6_5, c6_6, c6_7, c6_8, e6_0, e6_1, e6_2, e6_3, e6_4, e6_5, e6_6, e6_7, e6_8⟩)
      (first
      | (have g9 := O3; clear g9; go_at_call 50; refine (implNums k' f' t' s' g' m' r' d' A' n' cap' _ HW2.out).mono ?_; rintro e w4 ⟨A4, n4, cap4, rfl, ho, hb⟩; have X4 := Lib.hid (X3.out.below hb); have Y4 := Lib.hid (Y3.out.below hb); have B4 := Lib.hid (B3.out.trans (hb.mono B3.out.size)); have O4 := Lib.hid (show Ow 3 .i64 w4 _ _ A4 n4 cap4 ML by rw [← HML.out]; exact ho); have O34 := Lib.hid (O3.out.below hb); have c4_0 : w4.cell? ⟨w.heap.size, 0, none⟩ = some (.int .i64 k) := X4.out.cell 0; have c4_1 : w4.cell? ⟨w.heap.size, 1, none⟩ = some (.int .i64 f) := X4.out.cell 1; have c4_2 : w4.cell? ⟨w.heap.size, 2, none⟩ = some (.int .i64 t) := X4.out.cell 2; have c4_3 : w4.cell? ⟨w.heap.size, 3, none⟩ = some (.int .i64 s) := X4.out.cell 3; have c4_4 : w4.cell? ⟨w.heap.size, 4, none⟩ = some (.int .i64 g) := X4.out.cell 4; have c4_5 : w4.cell? ⟨w.heap.size, 5, none⟩ = some (.bool m) := X4.out.cell 5; have c4_6 : w4.cell? ⟨w.heap.size, 6, none⟩ = some (.bool r) := X4.out.cell 6; have c4_7 : w4.cell? ⟨w.heap.size, 7, none⟩ = some (.int .i64 d) := X4.out.cell 7; have c4_8 : w4.cell? ⟨w.heap.size, 8, none⟩ = some (.slice A n cap) := X4.out.cell 8; have e4_0 : w4.cell? ⟨w.heap.size + 1, 0, none⟩ = some (.int .i64 k') := Y4.out.cell 0; have e4_1 : w4.cell? ⟨w.heap.size + 1, 1, none⟩ = some (.int .i64 f') := Y4.out.cell 1; have e4_2 : w4.cell? ⟨w.heap.size + 1, 2, none⟩ = some (.int .i64 t') := Y4.out.cell 2; have e4_3 : w4.cell? ⟨w.heap.size + 1, 3, none⟩ = some (.int .i64 s') := Y4.out.cell 3; have e4_4 : w4.cell? ⟨w.heap.size + 1, 4, none⟩ = some (.int .i64 g') := Y4.out.cell 4; have e4_5 : w4.cell? ⟨w.heap.size + 1, 5, none⟩ = some (.bool m') := Y4.out.cell 5; have e4_6 : w4.cell? ⟨w.heap.size + 1, 6, none⟩ = some (.bool r') := Y4.out.cell 6; have e4_7 : w4.cell? ⟨w.heap.size + 1, 7, none⟩ = some (.int .i64 d') := Y4.out.cell 7; have e4_8 : w4.cell? ⟨w.heap.size + 1, 8, none⟩ = some (.slice A' n' cap') := Y4.out.cell 8; clear hb)
      | (go_at_call 50; refine (implNums k f t s g m r d A n cap _ HW.out).mono ?_; rintro e w3 ⟨A3, n3, cap3, rfl, ho, hb⟩; have X3 := Lib.hid (X2.out.below hb); have Y3 := Lib.hid (Y2.out.below hb); have B3 := Lib.hid (B2.out.trans (hb.mono B2.out.size)); have O3 := Lib.hid (show Ow 3 .i64 w3 _ _ A3 n3 cap3 NL by rw [← HNL.out]; exact ho); have c3_0 : w3.cell? ⟨w.heap.size, 0, none⟩ = some (.int .i64 k) := X3.out.cell 0; have c3_1 : w3.cell? ⟨w.heap.size, 1, none⟩ = some (.int .i64 f) := X3.out.cell 1; have c3_2 : w3.cell? ⟨w.heap.size, 2, none⟩ = some (.int .i64 t) := X3.out.cell 2; have c3_3 : w3.cell? ⟨w.heap.size, 3, none⟩ = some (.int .i64 s) := X3.out.cell 3; have c3_4 : w3.cell? ⟨w.heap.size, 4, none⟩ = some (.int .i64 g) := X3.out.cell 4; have c3_5 : w3.cell? ⟨w.heap.size, 5, none⟩ = some (.bool m) := X3.out.cell 5; have c3_6 : w3.cell? ⟨w.heap.size, 6, none⟩ = some (.bool r) := X3.out.cell 6; have c3_7 : w3.cell? ⟨w.heap.size, 7, none⟩ = some (.int .i64 d) := X3.out.cell 7; have c3_8 : w3.cell? ⟨w.heap.size, 8, none⟩ = some (.slice A n cap) := X3.out.cell 8; have e3_0 : w3.cell? ⟨w.heap.size + 1, 0, none⟩ = some (.int .i64 k') := Y3.out.cell 0; have e3_1 : w3.cell? ⟨w.heap.size + 1, 1, none⟩ = some (.int .i64 f') := Y3.out.cell 1; have e3_2 : w3.cell? ⟨w.heap.size + 1, 2, none⟩ = some (.int .i64 t') := Y3.out.cell 2; have e3_3 : w3.cell? ⟨w.heap.size + 1, 3, none⟩ = some (.int .i64 s') := Y3.out.cell 3; have e3_4 : w3.cell? ⟨w.heap.size + 1, 4, none⟩ = some (.int .i64 g') := Y3.out.cell 4; have e3_5 : w3.cell? ⟨w.heap.size + 1, 5, none⟩ = some (.bool m') := Y3.out.cell 5; have e3_6 : w3.cell? ⟨w.heap.size + 1, 6, none⟩ = some (.bool r') := Y3.out.cell 6; have e3_7 : w3.cell? ⟨w.heap.size + 1, 7, none⟩ = some (.int .i64 d') := Y3.out.cell 7; have e3_8 : w3.cell? ⟨w.heap.size + 1, 8, none⟩ = some (.slice A' n' cap') := Y3.out.cell 8; clear hb)
      | (go_at_call 60; refine (eqs.implEqI NL ML _ _ _ _ A3 A4 n3 cap3 n4 cap4 _ O34.out.rd O4.out.rd).mono ?_; rintro e w5 hpp; obtain ⟨rfl, hb⟩ := eqs.EqPost_parts HP.out hpp; have X5 := Lib.hid (X4.out.below hb); have Y5 := Lib.hid (Y4.out.below hb); have B5 := Lib.hid (B4.out.trans (hb.mono B4.out.size)); clear hpp; have c5_0 : w5.cell? ⟨w.heap.size, 0, none⟩ = some (.int .i64 k) := X5.out.cell 0; have c5_1 : w5.cell? ⟨w.heap.size, 1, none⟩ = some (.int .i64 f) := X5.out.cell 1; have c5_2 : w5.cell? ⟨w.heap.size, 2, none⟩ = some (.int .i64 t) := X5.out.cell 2; have c5_3 : w5.cell? ⟨w.heap.size, 3, none⟩ = some (.int .i64 s) := X5.out.cell 3; have c5_4 : w5.cell? ⟨w.heap.size, 4, none⟩ = some (.int .i64 g) := X5.out.cell 4; have c5_5 : w5.cell? ⟨w.heap.size, 5, none⟩ = some (.bool m) := X5.out.cell 5; have c5_6 : w5.cell? ⟨w.heap.size, 6, none⟩ = some (.bool r) := X5.out.cell 6; have c5_7 : w5.cell? ⟨w.heap.size, 7, none⟩ = some (.int .i64 d) := X5.out.cell 7; have c5_8 : w5.cell? ⟨w.heap.size, 8, none⟩ = some (.slice A n cap) := X5.out.cell 8; have e5_0 : w5.cell? ⟨w.heap.size + 1, 0, none⟩ = some (.int .i64 k') := Y5.out.cell 0; have e5_1 : w5.cell? ⟨w.heap.size + 1, 1, none⟩ = some (.int .i64 f') := Y5.out.cell 1; have e5_2 : w5.cell? ⟨w.heap.size + 1, 2, none⟩ = some (.int .i64 t') := Y5.out.cell 2; have e5_3 : w5.cell? ⟨w.heap.size + 1, 3, none⟩ = some (.int .i64 s') := Y5.out.cell 3; have e5_4 : w5.cell? ⟨w.heap.size + 1, 4, none⟩ = some (.int .i64 g') := Y5.out.cell 4; have e5_5 : w5.cell? ⟨w.heap.size + 1, 5, none⟩ = some (.bool m') := Y5.out.cell 5; have e5_6 : w5.cell? ⟨w.heap.size + 1, 6, none⟩ = some (.bool r') := Y5.out.cell 6; have e5_7 : w5.cell? ⟨w.heap.size + 1, 7, none⟩ = some (.int .i64 d') := Y5.out.cell 7; have e5_8 : w5.cell? ⟨w.heap.size + 1, 8, none⟩ = some (.slice A' n' cap') := Y5.out.cell 8; clear hb)
      | (go_at_call 55; refine (eqs.implEqB z z' _ _ _ _ A A' n cap n' cap' _ (HR.out.same B5.out.size (fun b _ hb => B5.out.block b (by have := HR.out.hi_; omega))) (HS.out.same B5.out.size (fun b _ hb => B5.out.block b (by have := HS.out.hi_; omega)))).mono ?_; rintro e w6 hpp; obtain ⟨rfl, hb⟩ := eqs.EqPost_parts HQ.out hpp; have X6 := Lib.hid (X5.out.below hb); have Y6 := Lib.hid (Y5.out.below hb); have B6 := Lib.hid (B5.out.trans (hb.mono B5.out.size)); clear hpp; have c6_0 : w6.cell? ⟨w.heap.size, 0, none⟩ = some (.int .i64 k) := X6.out.cell 0; have c6_1 : w6.cell? ⟨w.heap.size, 1, none⟩ = some (.int .i64 f) := X6.out.cell 1; have c6_2 : w6.cell? ⟨w.heap.size, 2, none⟩ = some (.int .i64 t) := X6.out.cell 2; have c6_3 : w6.cell? ⟨w.heap.size, 3, none⟩ = some (.int .i64 s) := X6.out.cell 3; have c6_4 : w6.cell? ⟨w.heap.size, 4, none⟩ = some (.int .i64 g) := X6.out.cell 4; have c6_5 : w6.cell? ⟨w.heap.size, 5, none⟩ = some (.bool m) := X6.out.cell 5; have c6_6 : w6.cell? ⟨w.heap.size, 6, none⟩ = some (.bool r) := X6.out.cell 6; have c6_7 : w6.cell? ⟨w.heap.size, 7, none⟩ = some (.int .i64 d) := X6.out.cell 7; have c6_8 : w6.cell? ⟨w.heap.size, 8, none⟩ = some (.slice A n cap) := X6.out.cell 8; have e6_0 : w6.cell? ⟨w.heap.size + 1, 0, none⟩ = some (.int .i64 k') := Y6.out.cell 0; have e6_1 : w6.cell? ⟨w.heap.size + 1, 1, none⟩ = some (.int .i64 f') := Y6.out.cell 1; have e6_2 : w6.cell? ⟨w.heap.size + 1, 2, none⟩ = some (.int .i64 t') := Y6.out.cell 2; have e6_3 : w6.cell? ⟨w.heap.size + 1, 3, none⟩ = some (.int .i64 s') := Y6.out.cell 3; have e6_4 : w6.cell? ⟨w.heap.size + 1, 4, none⟩ = some (.int .i64 g') := Y6.out.cell 4; have e6_5 : w6.cell? ⟨w.heap.size + 1, 5, none⟩ = some (.bool m') := Y6.out.cell 5; have e6_6 : w6.cell? ⟨w.heap.size + 1, 6, none⟩ = some (.bool r') := Y6.out.cell 6; have e6_7 : w6.cell? ⟨w.heap.size + 1, 7, none⟩ = some (.int .i64 d') := Y6.out.cell 7; have e6_8 : w6.cell? ⟨w.heap.size + 1, 8, none⟩ = some (.slice A' n' cap') := Y6.out.cell 8; clear hb))
    all_goals
      go_wp2_with fail
      go_ret
      exact ⟨rfl, B6.out⟩
end Go.Proofs.Ytnnlkkohbjolaaa.fbx
