/- NeedsAck, ReplyKind, the flags and the numbers of a frame, program and specification. Condition: none. -/
import Derived.Test.YtnnlkkohbjolaaaFbx
namespace Go.Proofs.Ytnnlkkohbjolaaa.fbx
open Go.RowKit sl harn rng frm
set_option linter.unusedVariables false
theorem ack_k {k t : Int} (h : k = 1 ∨ k = 6) (h2 : ¬ t = 63) : decide (Ack k t) = true := decide_eq_true ⟨h, h2⟩
theorem ack_t {k t : Int} (h2 : t = 63) : decide (Ack k t) = false := decide_eq_false fun h => h.2 h2
theorem ack_n {k t : Int} (h : ¬ (k = 1 ∨ k = 6)) : decide (Ack k t) = false := decide_eq_false fun g => h g.1

theorem implAck (k f t s g : Int) (m r : Bool) (d : Int) (A : Option Addr) (n cap : Nat) (w : World) :
    Calls Try.prog 34 #[.agg #[.int .i64 k, .int .i64 f, .int .i64 t, .int .i64 s, .int .i64 g, .bool m, .bool r, .int .i64 d, .slice A n cap]] w (BPost (decide (Ack k t)) w) := by
  by_cases h1 : k = 1
  · subst h1
    by_cases h2 : t = 63
    · have e2 : (t != 63) = false := by simpa using h2
      have E := Lib.hid (ack_t (k := 1) h2)
      clear h2
      go_enter Try.func34, Try.ntmps34
      go_wp2_with fail
      go_ret
      rw [E.out]
      exact ⟨rfl, below_box _ _⟩
    · have e2 : (t != 63) = true := by simpa using h2
      have E := Lib.hid (ack_k (.inl rfl) h2)
      clear h2
      go_enter Try.func34, Try.ntmps34
      go_wp2_with fail
      go_ret
      rw [E.out]
      exact ⟨rfl, below_box _ _⟩
  · have e1 : (k == 1) = false := by simpa using h1
    by_cases h6 : k = 6
    · subst h6
      clear h1 e1
      by_cases h2 : t = 63
      · have e2 : (t != 63) = false := by simpa using h2
        have E := Lib.hid (ack_t (k := 6) h2)
        clear h2
        go_enter Try.func34, Try.ntmps34
        go_wp2_with fail
        go_ret
        rw [E.out]
        exact ⟨rfl, below_box _ _⟩
      · have e2 : (t != 63) = true := by simpa using h2
        have E := Lib.hid (ack_k (.inr rfl) h2)
        clear h2
        go_enter Try.func34, Try.ntmps34
        go_wp2_with fail
        go_ret
        rw [E.out]
        exact ⟨rfl, below_box _ _⟩
    · have e6 : (k == 6) = false := by simpa using h6
      have E := Lib.hid (ack_n (t := t) (fun h => h.elim h1 h6))
      clear h1 h6
      go_enter Try.func34, Try.ntmps34
      go_wp2_with fail
      go_ret
      rw [E.out]
      exact ⟨rfl, below_box _ _⟩
theorem specAck (k f t s g : Int) (m r : Bool) (d : Int) (A : Option Addr) (n cap : Nat) (w : World) :
    Calls Try.prog 33 #[.agg #[.int .i64 k, .int .i64 f, .int .i64 t, .int .i64 s, .int .i64 g, .bool m, .bool r, .int .i64 d, .slice A n cap]] w (BPost (decide (Ack k t)) w) := by
  by_cases h1 : k = 1
  · subst h1
    by_cases h2 : t = 63
    · have e2 : (t != 63) = false := by simpa using h2
      have E := Lib.hid (ack_t (k := 1) h2)
      clear h2
      go_enter Try.func33, Try.ntmps33
      go_wp2_with fail
      go_ret
      rw [E.out]
      exact ⟨rfl, below_box _ _⟩
    · have e2 : (t != 63) = true := by simpa using h2
      have E := Lib.hid (ack_k (.inl rfl) h2)
      clear h2
      go_enter Try.func33, Try.ntmps33
      go_wp2_with fail
      go_ret
      rw [E.out]
      exact ⟨rfl, below_box _ _⟩
  · have e1 : (k == 1) = false := by simpa using h1
    by_cases h6 : k = 6
    · subst h6
      clear h1 e1
      by_cases h2 : t = 63
      · have e2 : (t != 63) = false := by simpa using h2
        have E := Lib.hid (ack_t (k := 6) h2)
        clear h2
        go_enter Try.func33, Try.ntmps33
        go_wp2_with fail
        go_ret
        rw [E.out]
        exact ⟨rfl, below_box _ _⟩
      · have e2 : (t != 63) = true := by simpa using h2
        have E := Lib.hid (ack_k (.inr rfl) h2)
        clear h2
        go_enter Try.func33, Try.ntmps33
        go_wp2_with fail
        go_ret
        rw [E.out]
        exact ⟨rfl, below_box _ _⟩
    · have e6 : (k == 6) = false := by simpa using h6
      have E := Lib.hid (ack_n (t := t) (fun h => h.elim h1 h6))
      clear h1 h6
      go_enter Try.func33, Try.ntmps33
      go_wp2_with fail
      go_ret
      rw [E.out]
      exact ⟨rfl, below_box _ _⟩
theorem implRk (k f t s g : Int) (m r : Bool) (d : Int) (A : Option Addr) (n cap : Nat) (w : World) :
    Calls Try.prog 36 #[.agg #[.int .i64 k, .int .i64 f, .int .i64 t, .int .i64 s, .int .i64 g, .bool m, .bool r, .int .i64 d, .slice A n cap]] w (NPost (rk k t) w) := by
  by_cases ha : Ack k t
  · have HA := Lib.hid (decide_eq_true ha)
    have E := Lib.hid (show rk k t = 2 from if_pos (.inl ha))
    clear ha
    go_enter Try.func36, Try.ntmps36
    go_wp2_with fail
    (with_reducible refine (implAck _ _ _ _ _ _ _ _ _ _ _ _).mono ?_)
    rw [HA.out]
    rintro e w1 ⟨rfl, hb⟩
    have B1 := Lib.hid ((below_box w _).trans (hb.mono (by simp)))
    have c0 := ((Bx.made _ _ _).below hb).cell 0
    simp at c0
    clear hb
    go_wp2_with fail
    go_ret
    rw [E.out]
    exact ⟨rfl, B1.out⟩
  · have HA := Lib.hid (decide_eq_false ha)
    by_cases h7 : k = 7
    · subst h7
      have E := Lib.hid (show rk 7 t = 2 from if_pos (.inr rfl))
      clear ha
      go_enter Try.func36, Try.ntmps36
      go_wp2_with fail
      (with_reducible refine (implAck _ _ _ _ _ _ _ _ _ _ _ _).mono ?_)
      rw [HA.out]
      rintro e w1 ⟨rfl, hb⟩
      have B1 := Lib.hid ((below_box w _).trans (hb.mono (by simp)))
      have c0 := ((Bx.made _ _ _).below hb).cell 0
      simp at c0
      clear hb
      go_wp2_with fail
      go_ret
      rw [E.out]
      exact ⟨rfl, B1.out⟩
    · have e7 : (k == 7) = false := by simpa using h7
      by_cases h3 : k = 3
      · subst h3
        have E := Lib.hid (show rk 3 t = 4 by unfold rk; rw [if_neg (fun h => h.elim ha h7), if_pos rfl])
        clear ha h7 e7
        go_enter Try.func36, Try.ntmps36
        go_wp2_with fail
        (with_reducible refine (implAck _ _ _ _ _ _ _ _ _ _ _ _).mono ?_)
        rw [HA.out]
        rintro e w1 ⟨rfl, hb⟩
        have B1 := Lib.hid ((below_box w _).trans (hb.mono (by simp)))
        have c0 := ((Bx.made _ _ _).below hb).cell 0
        simp at c0
        clear hb
        go_wp2_with fail
        go_ret
        rw [E.out]
        exact ⟨rfl, B1.out⟩
      · have e3 : (k == 3) = false := by simpa using h3
        have E := Lib.hid (show rk k t = 0 by unfold rk; rw [if_neg (fun h => h.elim ha h7), if_neg h3])
        clear ha h7 h3
        go_enter Try.func36, Try.ntmps36
        go_wp2_with fail
        (with_reducible refine (implAck _ _ _ _ _ _ _ _ _ _ _ _).mono ?_)
        rw [HA.out]
        rintro e w1 ⟨rfl, hb⟩
        have B1 := Lib.hid ((below_box w _).trans (hb.mono (by simp)))
        have c0 := ((Bx.made _ _ _).below hb).cell 0
        simp at c0
        clear hb
        go_wp2_with fail
        go_ret
        rw [E.out]
        exact ⟨rfl, B1.out⟩
theorem specRk (k f t s g : Int) (m r : Bool) (d : Int) (A : Option Addr) (n cap : Nat) (w : World) :
    Calls Try.prog 35 #[.agg #[.int .i64 k, .int .i64 f, .int .i64 t, .int .i64 s, .int .i64 g, .bool m, .bool r, .int .i64 d, .slice A n cap]] w (NPost (rk k t) w) := by
  by_cases ha : Ack k t
  · have HA := Lib.hid (decide_eq_true ha)
    have E := Lib.hid (show rk k t = 2 from if_pos (.inl ha))
    clear ha
    go_enter Try.func35, Try.ntmps35
    go_wp2_with fail
    (with_reducible refine (specAck _ _ _ _ _ _ _ _ _ _ _ _).mono ?_)
    rw [HA.out]
    rintro e w1 ⟨rfl, hb⟩
    have B1 := Lib.hid ((below_box w _).trans (hb.mono (by simp)))
    have c0 := ((Bx.made _ _ _).below hb).cell 0
    simp at c0
    clear hb
    go_wp2_with fail
    go_ret
    rw [E.out]
    exact ⟨rfl, B1.out⟩
  · have HA := Lib.hid (decide_eq_false ha)
    by_cases h7 : k = 7
    · subst h7
      have E := Lib.hid (show rk 7 t = 2 from if_pos (.inr rfl))
      clear ha
      go_enter Try.func35, Try.ntmps35
      go_wp2_with fail
      (with_reducible refine (specAck _ _ _ _ _ _ _ _ _ _ _ _).mono ?_)
      rw [HA.out]
      rintro e w1 ⟨rfl, hb⟩
      have B1 := Lib.hid ((below_box w _).trans (hb.mono (by simp)))
      have c0 := ((Bx.made _ _ _).below hb).cell 0
      simp at c0
      clear hb
      go_wp2_with fail
      go_ret
      rw [E.out]
      exact ⟨rfl, B1.out⟩
    · have e7 : (k == 7) = false := by simpa using h7
      by_cases h3 : k = 3
      · subst h3
        have E := Lib.hid (show rk 3 t = 4 by unfold rk; rw [if_neg (fun h => h.elim ha h7), if_pos rfl])
        clear ha h7 e7
        go_enter Try.func35, Try.ntmps35
        go_wp2_with fail
        (with_reducible refine (specAck _ _ _ _ _ _ _ _ _ _ _ _).mono ?_)
        rw [HA.out]
        rintro e w1 ⟨rfl, hb⟩
        have B1 := Lib.hid ((below_box w _).trans (hb.mono (by simp)))
        have c0 := ((Bx.made _ _ _).below hb).cell 0
        simp at c0
        clear hb
        go_wp2_with fail
        go_ret
        rw [E.out]
        exact ⟨rfl, B1.out⟩
      · have e3 : (k == 3) = false := by simpa using h3
        have E := Lib.hid (show rk k t = 0 by unfold rk; rw [if_neg (fun h => h.elim ha h7), if_neg h3])
        clear ha h7 h3
        go_enter Try.func35, Try.ntmps35
        go_wp2_with fail
        (with_reducible refine (specAck _ _ _ _ _ _ _ _ _ _ _ _).mono ?_)
        rw [HA.out]
        rintro e w1 ⟨rfl, hb⟩
        have B1 := Lib.hid ((below_box w _).trans (hb.mono (by simp)))
        have c0 := ((Bx.made _ _ _).below hb).cell 0
        simp at c0
        clear hb
        go_wp2_with fail
        go_ret
        rw [E.out]
        exact ⟨rfl, B1.out⟩
theorem specFl (k f t s g : Int) (m r : Bool) (d : Int) (A : Option Addr) (n cap : Nat) (w : World) :
    Calls Try.prog 67 #[.agg #[.int .i64 k, .int .i64 f, .int .i64 t, .int .i64 s, .int .i64 g, .bool m, .bool r, .int .i64 d, .slice A n cap]] w (NPost (fl m r) w) := by
  cases m <;> cases r
  all_goals
    go_enter Try.func67, Try.ntmps67
    go_wp2_with fail
    go_ret
    exact ⟨rfl, below_box _ _⟩
theorem seven_own (w : World) (o : Obj) (a b c d e f g : Int) (hw : Wf .i64 [a, b, c, d, e, f, g]) :
    Ow 3 .i64 ((w.alloc o).alloc (.cells #[.int .i64 a, .int .i64 b, .int .i64 c, .int .i64 d, .int .i64 e, .int .i64 f, .int .i64 g] 3)) w.heap.size ((w.alloc o).alloc (.cells #[.int .i64 a, .int .i64 b, .int .i64 c, .int .i64 d, .int .i64 e, .int .i64 f, .int .i64 g] 3)).heap.size (some ⟨w.heap.size + 1, 0, none⟩) 7 7 [a, b, c, d, e, f, g] := by
  have h := Ow.down (lo2 := w.heap.size) (Ow.lit (k := .i64) (E := 3) (n := 7) (w.alloc o) #[.int .i64 a, .int .i64 b, .int .i64 c, .int .i64 d, .int .i64 e, .int .i64 f, .int .i64 g] [a, b, c, d, e, f, g] rfl hw (by simp [maxLen]) rfl) (by simp)
  simpa using h
theorem implNums_0 (k f t s g d : Int) (A : Option Addr) (n cap : Nat) (w : World) (hw : Wf .i64 [k, f, t, s, g, 0, d]) :
    Calls Try.prog 50 #[.agg #[.int .i64 k, .int .i64 f, .int .i64 t, .int .i64 s, .int .i64 g, .bool false, .bool false, .int .i64 d, .slice A n cap]] w (SlPost 3 .i64 w [k, f, t, s, g, 0, d]) := by
  have HW := Lib.hid hw
  clear hw
  go_enter Try.func50, Try.ntmps50
  go_wp2_with fail
  go_ret
  exact ⟨_, _, _, rfl, seven_own _ _ _ _ _ _ _ _ _ HW.out, below_box2 _ _ _⟩
theorem implNums_2 (k f t s g d : Int) (A : Option Addr) (n cap : Nat) (w : World) (hw : Wf .i64 [k, f, t, s, g, 2, d]) :
    Calls Try.prog 50 #[.agg #[.int .i64 k, .int .i64 f, .int .i64 t, .int .i64 s, .int .i64 g, .bool false, .bool true, .int .i64 d, .slice A n cap]] w (SlPost 3 .i64 w [k, f, t, s, g, 2, d]) := by
  have HW := Lib.hid hw
  clear hw
  go_enter Try.func50, Try.ntmps50
  go_wp2_with fail
  go_ret
  exact ⟨_, _, _, rfl, seven_own _ _ _ _ _ _ _ _ _ HW.out, below_box2 _ _ _⟩
theorem implNums_1 (k f t s g d : Int) (A : Option Addr) (n cap : Nat) (w : World) (hw : Wf .i64 [k, f, t, s, g, 1, d]) :
    Calls Try.prog 50 #[.agg #[.int .i64 k, .int .i64 f, .int .i64 t, .int .i64 s, .int .i64 g, .bool true, .bool false, .int .i64 d, .slice A n cap]] w (SlPost 3 .i64 w [k, f, t, s, g, 1, d]) := by
  have HW := Lib.hid hw
  clear hw
  go_enter Try.func50, Try.ntmps50
  go_wp2_with fail
  go_ret
  exact ⟨_, _, _, rfl, seven_own _ _ _ _ _ _ _ _ _ HW.out, below_box2 _ _ _⟩
theorem implNums_3 (k f t s g d : Int) (A : Option Addr) (n cap : Nat) (w : World) (hw : Wf .i64 [k, f, t, s, g, 3, d]) :
    Calls Try.prog 50 #[.agg #[.int .i64 k, .int .i64 f, .int .i64 t, .int .i64 s, .int .i64 g, .bool true, .bool true, .int .i64 d, .slice A n cap]] w (SlPost 3 .i64 w [k, f, t, s, g, 3, d]) := by
  have HW := Lib.hid hw
  clear hw
  go_enter Try.func50, Try.ntmps50
  go_wp2_with fail
  go_ret
  exact ⟨_, _, _, rfl, seven_own _ _ _ _ _ _ _ _ _ HW.out, below_box2 _ _ _⟩
theorem implNums (k f t s g : Int) (m r : Bool) (d : Int) (A : Option Addr) (n cap : Nat) (w : World) (hw : Wf .i64 (nums ⟨k, f, t, s, g, m, r, d, []⟩)) :
    Calls Try.prog 50 #[.agg #[.int .i64 k, .int .i64 f, .int .i64 t, .int .i64 s, .int .i64 g, .bool m, .bool r, .int .i64 d, .slice A n cap]] w (SlPost 3 .i64 w (nums ⟨k, f, t, s, g, m, r, d, []⟩)) := by
  cases m <;> cases r
  · exact implNums_0 k f t s g d A n cap w hw
  · exact implNums_2 k f t s g d A n cap w hw
  · exact implNums_1 k f t s g d A n cap w hw
  · exact implNums_3 k f t s g d A n cap w hw
end Go.Proofs.Ytnnlkkohbjolaaa.fbx
