/- Who hears whom: program and specification. Condition: none. -/
import Derived.Test.YtichhbkgebimeaaPl1
import Derived.Deep.RegionHeld3
import Derived.Deep.RegionWith
namespace Go.Proofs.Ytichhbkgebimeaa.bx
open Go.RowKit sl harn rng plm
set_option linter.unusedVariables false

set_option maxRecDepth 100000 in
set_option maxHeartbeats 4000000 in
theorem implWin (A : Option Addr) (n cap : Nat) (r s : Int) (z : List Int) (a b l : Int) (lo hi : Nat) (w : World) (h : Rd .i64 w lo hi A n cap z) :
    Calls Try.prog 47 #[.agg #[.slice A n cap, .int .i64 r, .int .i64 s], .int .i64 a, .int .i64 b, .int .i64 l] w (BPost (win z l a b) w) := by
  have HR := Lib.hid h
  clear h
  by_cases hab : a = b
  · subst hab
    rw [win_no0 rfl]
    go_enter Try.func47, Try.ntmps47
    go_wp2_with fail
    go_ret
    exact ⟨rfl, below_box _ _⟩
  have hn : (a == b) = false := by simpa using hab
  have hn2 : (a != b) = true := by simpa using hab
  by_cases ha : plc z a = true
  · by_cases hb : plc z b = true
    · obtain ⟨d, hd⟩ : ∃ d, dst z a b = d := ⟨_, rfl⟩
      rw [win_at hab ha hb hd rfl]
      have HA := Lib.hid ha
      have HB := Lib.hid hb
      have HD := Lib.hid hd
      clear ha hb hd
      clear hab
      go_enter Try.func47, Try.ntmps47
      go_wp2_with fail
      obtain ⟨w0, hW⟩ : ∃ w0, w.alloc (.cells #[.slice A n cap, .int .i64 r, .int .i64 s] 26) = w0 := ⟨_, rfl⟩
      rw [hW]
      have B0 := Lib.hid (show Below w.heap.size w w0 by rw [← hW]; exact below_box _ _)
      have X0 := Lib.hid (show Bx 26 w0 w.heap.size #[.slice A n cap, .int .i64 r, .int .i64 s] by rw [← hW]; exact Bx.made _ _ _)
      have R0 := Lib.hid (HR.out.below (show Below w.heap.size w w0 from B0.out))
      clear hW HR
      have c0 : w0.cell? ⟨w.heap.size, 0, none⟩ = some (.slice A n cap) := X0.out.cell 0
      have c1 : w0.cell? ⟨w.heap.size, 1, none⟩ = some (.int .i64 r) := X0.out.cell 1
      have c2 : w0.cell? ⟨w.heap.size, 2, none⟩ = some (.int .i64 s) := X0.out.cell 2
      (with_reducible refine (implPl A n cap r s z a _ _ _ R0.out).mono ?_)
      rintro e w1 hp
      obtain ⟨rfl, hb⟩ := b_parts HA.out hp
      clear hp
      clear c0 c1 c2
      have B1 := Lib.hid (B0.out.trans (hb.mono B0.out.size))
      have X1 := Lib.hid (X0.out.below hb)
      have R1 := Lib.hid (R0.out.below hb)
      clear hb B0 X0 R0
      have c0 : w1.cell? ⟨w.heap.size, 0, none⟩ = some (.slice A n cap) := X1.out.cell 0
      have c1 : w1.cell? ⟨w.heap.size, 1, none⟩ = some (.int .i64 r) := X1.out.cell 1
      have c2 : w1.cell? ⟨w.heap.size, 2, none⟩ = some (.int .i64 s) := X1.out.cell 2
      go_wp2_with fail
      (with_reducible refine (implPl A n cap r s z b _ _ _ R1.out).mono ?_)
      rintro e w2 hp
      obtain ⟨rfl, hb⟩ := b_parts HB.out hp
      clear hp
      clear c0 c1 c2
      have B2 := Lib.hid (B1.out.trans (hb.mono B1.out.size))
      have X2 := Lib.hid (X1.out.below hb)
      have R2 := Lib.hid (R1.out.below hb)
      clear hb B1 X1 R1
      have c0 : w2.cell? ⟨w.heap.size, 0, none⟩ = some (.slice A n cap) := X2.out.cell 0
      have c1 : w2.cell? ⟨w.heap.size, 1, none⟩ = some (.int .i64 r) := X2.out.cell 1
      have c2 : w2.cell? ⟨w.heap.size, 2, none⟩ = some (.int .i64 s) := X2.out.cell 2
      go_wp2_with fail
      (with_reducible refine (implDst A n cap r s z a b _ _ _ R2.out).mono ?_)
      rintro e w3 hp
      obtain ⟨rfl, hb⟩ := n_parts HD.out hp
      clear hp
      clear c0 c1 c2
      have B3 := Lib.hid (B2.out.trans (hb.mono B2.out.size))
      have X3 := Lib.hid (X2.out.below hb)
      have R3 := Lib.hid (R2.out.below hb)
      clear hb B2 X2 R2
      go_wp2_with fail
      go_ret
      exact ⟨rfl, B3.out⟩
    · have hb2 : plc z b = false := by simpa using hb
      rw [win_no2 hb2]
      have HA := Lib.hid ha
      have HB := Lib.hid hb2
      clear ha hb hb2
      clear hab
      go_enter Try.func47, Try.ntmps47
      go_wp2_with fail
      obtain ⟨w0, hW⟩ : ∃ w0, w.alloc (.cells #[.slice A n cap, .int .i64 r, .int .i64 s] 26) = w0 := ⟨_, rfl⟩
      rw [hW]
      have B0 := Lib.hid (show Below w.heap.size w w0 by rw [← hW]; exact below_box _ _)
      have X0 := Lib.hid (show Bx 26 w0 w.heap.size #[.slice A n cap, .int .i64 r, .int .i64 s] by rw [← hW]; exact Bx.made _ _ _)
      have R0 := Lib.hid (HR.out.below (show Below w.heap.size w w0 from B0.out))
      clear hW HR
      have c0 : w0.cell? ⟨w.heap.size, 0, none⟩ = some (.slice A n cap) := X0.out.cell 0
      have c1 : w0.cell? ⟨w.heap.size, 1, none⟩ = some (.int .i64 r) := X0.out.cell 1
      have c2 : w0.cell? ⟨w.heap.size, 2, none⟩ = some (.int .i64 s) := X0.out.cell 2
      (with_reducible refine (implPl A n cap r s z a _ _ _ R0.out).mono ?_)
      rintro e w1 hp
      obtain ⟨rfl, hb⟩ := b_parts HA.out hp
      clear hp
      clear c0 c1 c2
      have B1 := Lib.hid (B0.out.trans (hb.mono B0.out.size))
      have X1 := Lib.hid (X0.out.below hb)
      have R1 := Lib.hid (R0.out.below hb)
      clear hb B0 X0 R0
      have c0 : w1.cell? ⟨w.heap.size, 0, none⟩ = some (.slice A n cap) := X1.out.cell 0
      have c1 : w1.cell? ⟨w.heap.size, 1, none⟩ = some (.int .i64 r) := X1.out.cell 1
      have c2 : w1.cell? ⟨w.heap.size, 2, none⟩ = some (.int .i64 s) := X1.out.cell 2
      go_wp2_with fail
      (with_reducible refine (implPl A n cap r s z b _ _ _ R1.out).mono ?_)
      rintro e w2 hp
      obtain ⟨rfl, hb⟩ := b_parts HB.out hp
      clear hp
      clear c0 c1 c2
      have B2 := Lib.hid (B1.out.trans (hb.mono B1.out.size))
      have X2 := Lib.hid (X1.out.below hb)
      have R2 := Lib.hid (R1.out.below hb)
      clear hb B1 X1 R1
      go_wp2_with fail
      go_ret
      exact ⟨rfl, B2.out⟩
  · have ha2 : plc z a = false := by simpa using ha
    rw [win_no1 ha2]
    have HA := Lib.hid ha2
    clear ha ha2
    clear hab
    go_enter Try.func47, Try.ntmps47
    go_wp2_with fail
    obtain ⟨w0, hW⟩ : ∃ w0, w.alloc (.cells #[.slice A n cap, .int .i64 r, .int .i64 s] 26) = w0 := ⟨_, rfl⟩
    rw [hW]
    have B0 := Lib.hid (show Below w.heap.size w w0 by rw [← hW]; exact below_box _ _)
    have X0 := Lib.hid (show Bx 26 w0 w.heap.size #[.slice A n cap, .int .i64 r, .int .i64 s] by rw [← hW]; exact Bx.made _ _ _)
    have R0 := Lib.hid (HR.out.below (show Below w.heap.size w w0 from B0.out))
    clear hW HR
    have c0 : w0.cell? ⟨w.heap.size, 0, none⟩ = some (.slice A n cap) := X0.out.cell 0
    have c1 : w0.cell? ⟨w.heap.size, 1, none⟩ = some (.int .i64 r) := X0.out.cell 1
    have c2 : w0.cell? ⟨w.heap.size, 2, none⟩ = some (.int .i64 s) := X0.out.cell 2
    (with_reducible refine (implPl A n cap r s z a _ _ _ R0.out).mono ?_)
    rintro e w1 hp
    obtain ⟨rfl, hb⟩ := b_parts HA.out hp
    clear hp
    clear c0 c1 c2
    have B1 := Lib.hid (B0.out.trans (hb.mono B0.out.size))
    have X1 := Lib.hid (X0.out.below hb)
    have R1 := Lib.hid (R0.out.below hb)
    clear hb B0 X0 R0
    go_wp2_with fail
    go_ret
    exact ⟨rfl, B1.out⟩
set_option maxRecDepth 100000 in
set_option maxHeartbeats 4000000 in
theorem implCr (A : Option Addr) (n cap : Nat) (r s : Int) (z : List Int) (a b : Int) (lo hi : Nat) (w : World) (h : Rd .i64 w lo hi A n cap z) :
    Calls Try.prog 16 #[.agg #[.slice A n cap, .int .i64 r, .int .i64 s], .int .i64 a, .int .i64 b] w (BPost (win z r a b) w) := by
  have HR := Lib.hid h
  clear h
  go_enter Try.func16, Try.ntmps16
  go_wp2_with fail
  obtain ⟨w0, hW⟩ : ∃ w0, w.alloc (.cells #[.slice A n cap, .int .i64 r, .int .i64 s] 26) = w0 := ⟨_, rfl⟩
  rw [hW]
  have B0 := Lib.hid (show Below w.heap.size w w0 by rw [← hW]; exact below_box _ _)
  have X0 := Lib.hid (show Bx 26 w0 w.heap.size #[.slice A n cap, .int .i64 r, .int .i64 s] by rw [← hW]; exact Bx.made _ _ _)
  have R0 := Lib.hid (HR.out.below (show Below w.heap.size w w0 from B0.out))
  clear hW HR
  (with_reducible refine (implWin A n cap r s z a b r _ _ _ R0.out).mono ?_)
  rintro e w1 ⟨rfl, hb⟩
  have B1 := Lib.hid (B0.out.trans (hb.mono B0.out.size))
  have X1 := Lib.hid (X0.out.below hb)
  have R1 := Lib.hid (R0.out.below hb)
  clear hb B0 X0 R0
  go_wp2_with fail
  go_ret
  exact ⟨rfl, B1.out⟩
set_option maxRecDepth 100000 in
set_option maxHeartbeats 4000000 in
theorem implCs (A : Option Addr) (n cap : Nat) (r s : Int) (z : List Int) (a b : Int) (lo hi : Nat) (w : World) (h : Rd .i64 w lo hi A n cap z) :
    Calls Try.prog 17 #[.agg #[.slice A n cap, .int .i64 r, .int .i64 s], .int .i64 a, .int .i64 b] w (BPost (win z s a b) w) := by
  have HR := Lib.hid h
  clear h
  go_enter Try.func17, Try.ntmps17
  go_wp2_with fail
  obtain ⟨w0, hW⟩ : ∃ w0, w.alloc (.cells #[.slice A n cap, .int .i64 r, .int .i64 s] 26) = w0 := ⟨_, rfl⟩
  rw [hW]
  have B0 := Lib.hid (show Below w.heap.size w w0 by rw [← hW]; exact below_box _ _)
  have X0 := Lib.hid (show Bx 26 w0 w.heap.size #[.slice A n cap, .int .i64 r, .int .i64 s] by rw [← hW]; exact Bx.made _ _ _)
  have R0 := Lib.hid (HR.out.below (show Below w.heap.size w w0 from B0.out))
  clear hW HR
  (with_reducible refine (implWin A n cap r s z a b s _ _ _ R0.out).mono ?_)
  rintro e w1 ⟨rfl, hb⟩
  have B1 := Lib.hid (B0.out.trans (hb.mono B0.out.size))
  have X1 := Lib.hid (X0.out.below hb)
  have R1 := Lib.hid (R0.out.below hb)
  clear hb B0 X0 R0
  go_wp2_with fail
  go_ret
  exact ⟨rfl, B1.out⟩
set_option maxRecDepth 100000 in
set_option maxHeartbeats 4000000 in
theorem specCr (A : Option Addr) (n cap : Nat) (r s : Int) (z : List Int) (a b : Int) (lo hi : Nat) (w : World) (h : Rd .i64 w lo hi A n cap z) :
    Calls Try.prog 31 #[.agg #[.slice A n cap, .int .i64 r, .int .i64 s], .int .i64 a, .int .i64 b] w (BPost (win z r a b) w) := by
  have HR := Lib.hid h
  clear h
  by_cases ha : plc z a = true
  · by_cases hb : plc z b = true
    · by_cases hab : a = b
      · rw [win_no0 hab]
        have hn : (a == b) = true := by simpa using hab
        have hn2 : (a != b) = false := by simp [hab]
        have HA := Lib.hid ha
        have HB := Lib.hid hb
        clear ha hb hab
        go_enter Try.func31, Try.ntmps31
        go_wp2_with fail
        obtain ⟨w0, hW⟩ : ∃ w0, w.alloc (.cells #[.slice A n cap, .int .i64 r, .int .i64 s] 26) = w0 := ⟨_, rfl⟩
        rw [hW]
        have B0 := Lib.hid (show Below w.heap.size w w0 by rw [← hW]; exact below_box _ _)
        have X0 := Lib.hid (show Bx 26 w0 w.heap.size #[.slice A n cap, .int .i64 r, .int .i64 s] by rw [← hW]; exact Bx.made _ _ _)
        have R0 := Lib.hid (HR.out.below B0.out)
        clear hW HR
        have c0 : ∀ m : Af w0, m.w.cell? ⟨w.heap.size, 0, none⟩ = some (.slice A n cap) := fun m => (Af.cells X0.out m).cell 0
        have c1 : ∀ m : Af w0, m.w.cell? ⟨w.heap.size, 1, none⟩ = some (.int .i64 r) := fun m => (Af.cells X0.out m).cell 1
        have c2 : ∀ m : Af w0, m.w.cell? ⟨w.heap.size, 2, none⟩ = some (.int .i64 s) := fun m => (Af.cells X0.out m).cell 2
        have k0 := Lib.hid (fun m => by have hh := specPl A n cap r s z a _ _ _ (Af.rd R0.out m); rw [HA.out] at hh; exact hh : ∀ m : Af w0, Calls Try.prog 52 #[.agg #[.slice A n cap, .int .i64 r, .int .i64 s], .int .i64 a] m.w fun e w' => e = .returned (.bool true) ∧ Below m.w.heap.size m.w w')
        have k1 := Lib.hid (fun m => by have hh := specPl A n cap r s z b _ _ _ (Af.rd R0.out m); rw [HB.out] at hh; exact hh : ∀ m : Af w0, Calls Try.prog 52 #[.agg #[.slice A n cap, .int .i64 r, .int .i64 s], .int .i64 b] m.w fun e w' => e = .returned (.bool true) ∧ Below m.w.heap.size m.w w')
        refine region_after (by kernel_rfl) (by kernel_rfl) ?_
        repeat (go_big_quiet_step ((first
          | (go_at_call 52; with_reducible exact Af.call (k0.out _))
          | (go_at_call 52; with_reducible exact Af.call (k1.out _)))))
        refine wpQuiet_nil ?_
        intro _ hw'
        obtain ⟨nq, hw''⟩ := hw'
        subst hw''
        clear c0 c1 c2 k0 k1
        go_wp2_with fail
        go_ret
        exact ⟨rfl, Af.on B0.out nq⟩
      · have hn : (a == b) = false := by simpa using hab
        have hn2 : (a != b) = true := by simpa using hab
        obtain ⟨d, hd⟩ : ∃ d, dst z a b = d := ⟨_, rfl⟩
        rw [win_at hab ha hb hd rfl]
        have HA := Lib.hid ha
        have HB := Lib.hid hb
        have HD := Lib.hid hd
        clear ha hb hd
        clear hab
        go_enter Try.func31, Try.ntmps31
        go_wp2_with fail
        obtain ⟨w0, hW⟩ : ∃ w0, w.alloc (.cells #[.slice A n cap, .int .i64 r, .int .i64 s] 26) = w0 := ⟨_, rfl⟩
        rw [hW]
        have B0 := Lib.hid (show Below w.heap.size w w0 by rw [← hW]; exact below_box _ _)
        have X0 := Lib.hid (show Bx 26 w0 w.heap.size #[.slice A n cap, .int .i64 r, .int .i64 s] by rw [← hW]; exact Bx.made _ _ _)
        have R0 := Lib.hid (HR.out.below B0.out)
        clear hW HR
        have c0 : ∀ m : Af w0, m.w.cell? ⟨w.heap.size, 0, none⟩ = some (.slice A n cap) := fun m => (Af.cells X0.out m).cell 0
        have c1 : ∀ m : Af w0, m.w.cell? ⟨w.heap.size, 1, none⟩ = some (.int .i64 r) := fun m => (Af.cells X0.out m).cell 1
        have c2 : ∀ m : Af w0, m.w.cell? ⟨w.heap.size, 2, none⟩ = some (.int .i64 s) := fun m => (Af.cells X0.out m).cell 2
        have k0 := Lib.hid (fun m => by have hh := specPl A n cap r s z a _ _ _ (Af.rd R0.out m); rw [HA.out] at hh; exact hh : ∀ m : Af w0, Calls Try.prog 52 #[.agg #[.slice A n cap, .int .i64 r, .int .i64 s], .int .i64 a] m.w fun e w' => e = .returned (.bool true) ∧ Below m.w.heap.size m.w w')
        have k1 := Lib.hid (fun m => by have hh := specPl A n cap r s z b _ _ _ (Af.rd R0.out m); rw [HB.out] at hh; exact hh : ∀ m : Af w0, Calls Try.prog 52 #[.agg #[.slice A n cap, .int .i64 r, .int .i64 s], .int .i64 b] m.w fun e w' => e = .returned (.bool true) ∧ Below m.w.heap.size m.w w')
        have k2 := Lib.hid (fun m => by have hh := specDst A n cap r s z a b _ _ _ (Af.rd R0.out m); rw [HD.out] at hh; exact hh : ∀ m : Af w0, Calls Try.prog 25 #[.agg #[.slice A n cap, .int .i64 r, .int .i64 s], .int .i64 a, .int .i64 b] m.w fun e w' => e = .returned (.int .i64 d) ∧ Below m.w.heap.size m.w w')
        refine region_after (by kernel_rfl) (by kernel_rfl) ?_
        repeat (go_big_quiet_step ((first
          | (go_at_call 52; with_reducible exact Af.call (k0.out _))
          | (go_at_call 52; with_reducible exact Af.call (k1.out _))
          | (go_at_call 25; with_reducible exact Af.call (k2.out _)))))
        refine wpQuiet_nil ?_
        intro _ hw'
        obtain ⟨nq, hw''⟩ := hw'
        subst hw''
        clear c0 c1 c2 k0 k1 k2
        go_wp2_with fail
        go_ret
        exact ⟨rfl, Af.on B0.out nq⟩
    · have hb2 : plc z b = false := by simpa using hb
      rw [win_no2 hb2]
      have HA := Lib.hid ha
      have HB := Lib.hid hb2
      clear ha hb hb2
      go_enter Try.func31, Try.ntmps31
      go_wp2_with fail
      obtain ⟨w0, hW⟩ : ∃ w0, w.alloc (.cells #[.slice A n cap, .int .i64 r, .int .i64 s] 26) = w0 := ⟨_, rfl⟩
      rw [hW]
      have B0 := Lib.hid (show Below w.heap.size w w0 by rw [← hW]; exact below_box _ _)
      have X0 := Lib.hid (show Bx 26 w0 w.heap.size #[.slice A n cap, .int .i64 r, .int .i64 s] by rw [← hW]; exact Bx.made _ _ _)
      have R0 := Lib.hid (HR.out.below B0.out)
      clear hW HR
      have c0 : ∀ m : Af w0, m.w.cell? ⟨w.heap.size, 0, none⟩ = some (.slice A n cap) := fun m => (Af.cells X0.out m).cell 0
      have c1 : ∀ m : Af w0, m.w.cell? ⟨w.heap.size, 1, none⟩ = some (.int .i64 r) := fun m => (Af.cells X0.out m).cell 1
      have c2 : ∀ m : Af w0, m.w.cell? ⟨w.heap.size, 2, none⟩ = some (.int .i64 s) := fun m => (Af.cells X0.out m).cell 2
      have k0 := Lib.hid (fun m => by have hh := specPl A n cap r s z a _ _ _ (Af.rd R0.out m); rw [HA.out] at hh; exact hh : ∀ m : Af w0, Calls Try.prog 52 #[.agg #[.slice A n cap, .int .i64 r, .int .i64 s], .int .i64 a] m.w fun e w' => e = .returned (.bool true) ∧ Below m.w.heap.size m.w w')
      have k1 := Lib.hid (fun m => by have hh := specPl A n cap r s z b _ _ _ (Af.rd R0.out m); rw [HB.out] at hh; exact hh : ∀ m : Af w0, Calls Try.prog 52 #[.agg #[.slice A n cap, .int .i64 r, .int .i64 s], .int .i64 b] m.w fun e w' => e = .returned (.bool false) ∧ Below m.w.heap.size m.w w')
      refine region_after (by kernel_rfl) (by kernel_rfl) ?_
      repeat (go_big_quiet_step ((first
        | (go_at_call 52; with_reducible exact Af.call (k0.out _))
        | (go_at_call 52; with_reducible exact Af.call (k1.out _)))))
      refine wpQuiet_nil ?_
      intro _ hw'
      obtain ⟨nq, hw''⟩ := hw'
      subst hw''
      clear c0 c1 c2 k0 k1
      go_wp2_with fail
      go_ret
      exact ⟨rfl, Af.on B0.out nq⟩
  · have ha2 : plc z a = false := by simpa using ha
    rw [win_no1 ha2]
    have HA := Lib.hid ha2
    clear ha ha2
    go_enter Try.func31, Try.ntmps31
    go_wp2_with fail
    obtain ⟨w0, hW⟩ : ∃ w0, w.alloc (.cells #[.slice A n cap, .int .i64 r, .int .i64 s] 26) = w0 := ⟨_, rfl⟩
    rw [hW]
    have B0 := Lib.hid (show Below w.heap.size w w0 by rw [← hW]; exact below_box _ _)
    have X0 := Lib.hid (show Bx 26 w0 w.heap.size #[.slice A n cap, .int .i64 r, .int .i64 s] by rw [← hW]; exact Bx.made _ _ _)
    have R0 := Lib.hid (HR.out.below B0.out)
    clear hW HR
    have c0 : ∀ m : Af w0, m.w.cell? ⟨w.heap.size, 0, none⟩ = some (.slice A n cap) := fun m => (Af.cells X0.out m).cell 0
    have c1 : ∀ m : Af w0, m.w.cell? ⟨w.heap.size, 1, none⟩ = some (.int .i64 r) := fun m => (Af.cells X0.out m).cell 1
    have c2 : ∀ m : Af w0, m.w.cell? ⟨w.heap.size, 2, none⟩ = some (.int .i64 s) := fun m => (Af.cells X0.out m).cell 2
    have k0 := Lib.hid (fun m => by have hh := specPl A n cap r s z a _ _ _ (Af.rd R0.out m); rw [HA.out] at hh; exact hh : ∀ m : Af w0, Calls Try.prog 52 #[.agg #[.slice A n cap, .int .i64 r, .int .i64 s], .int .i64 a] m.w fun e w' => e = .returned (.bool false) ∧ Below m.w.heap.size m.w w')
    refine region_after (by kernel_rfl) (by kernel_rfl) ?_
    repeat (go_big_quiet_step ((first
      | (go_at_call 52; with_reducible exact Af.call (k0.out _)))))
    refine wpQuiet_nil ?_
    intro _ hw'
    obtain ⟨nq, hw''⟩ := hw'
    subst hw''
    clear c0 c1 c2 k0
    go_wp2_with fail
    go_ret
    exact ⟨rfl, Af.on B0.out nq⟩
set_option maxRecDepth 100000 in
set_option maxHeartbeats 4000000 in
theorem specCs (A : Option Addr) (n cap : Nat) (r s : Int) (z : List Int) (a b : Int) (lo hi : Nat) (w : World) (h : Rd .i64 w lo hi A n cap z) :
    Calls Try.prog 24 #[.agg #[.slice A n cap, .int .i64 r, .int .i64 s], .int .i64 a, .int .i64 b] w (BPost (win z s a b) w) := by
  have HR := Lib.hid h
  clear h
  by_cases ha : plc z a = true
  · by_cases hb : plc z b = true
    · by_cases hab : a = b
      · rw [win_no0 hab]
        have hn : (a == b) = true := by simpa using hab
        have hn2 : (a != b) = false := by simp [hab]
        have HA := Lib.hid ha
        have HB := Lib.hid hb
        clear ha hb hab
        go_enter Try.func24, Try.ntmps24
        go_wp2_with fail
        obtain ⟨w0, hW⟩ : ∃ w0, w.alloc (.cells #[.slice A n cap, .int .i64 r, .int .i64 s] 26) = w0 := ⟨_, rfl⟩
        rw [hW]
        have B0 := Lib.hid (show Below w.heap.size w w0 by rw [← hW]; exact below_box _ _)
        have X0 := Lib.hid (show Bx 26 w0 w.heap.size #[.slice A n cap, .int .i64 r, .int .i64 s] by rw [← hW]; exact Bx.made _ _ _)
        have R0 := Lib.hid (HR.out.below B0.out)
        clear hW HR
        have c0 : ∀ m : Af w0, m.w.cell? ⟨w.heap.size, 0, none⟩ = some (.slice A n cap) := fun m => (Af.cells X0.out m).cell 0
        have c1 : ∀ m : Af w0, m.w.cell? ⟨w.heap.size, 1, none⟩ = some (.int .i64 r) := fun m => (Af.cells X0.out m).cell 1
        have c2 : ∀ m : Af w0, m.w.cell? ⟨w.heap.size, 2, none⟩ = some (.int .i64 s) := fun m => (Af.cells X0.out m).cell 2
        have k0 := Lib.hid (fun m => by have hh := specPl A n cap r s z a _ _ _ (Af.rd R0.out m); rw [HA.out] at hh; exact hh : ∀ m : Af w0, Calls Try.prog 52 #[.agg #[.slice A n cap, .int .i64 r, .int .i64 s], .int .i64 a] m.w fun e w' => e = .returned (.bool true) ∧ Below m.w.heap.size m.w w')
        have k1 := Lib.hid (fun m => by have hh := specPl A n cap r s z b _ _ _ (Af.rd R0.out m); rw [HB.out] at hh; exact hh : ∀ m : Af w0, Calls Try.prog 52 #[.agg #[.slice A n cap, .int .i64 r, .int .i64 s], .int .i64 b] m.w fun e w' => e = .returned (.bool true) ∧ Below m.w.heap.size m.w w')
        refine region_after (by kernel_rfl) (by kernel_rfl) ?_
        repeat (go_big_quiet_step ((first
          | (go_at_call 52; with_reducible exact Af.call (k0.out _))
          | (go_at_call 52; with_reducible exact Af.call (k1.out _)))))
        refine wpQuiet_nil ?_
        intro _ hw'
        obtain ⟨nq, hw''⟩ := hw'
        subst hw''
        clear c0 c1 c2 k0 k1
        go_wp2_with fail
        go_ret
        exact ⟨rfl, Af.on B0.out nq⟩
      · have hn : (a == b) = false := by simpa using hab
        have hn2 : (a != b) = true := by simpa using hab
        obtain ⟨d, hd⟩ : ∃ d, dst z a b = d := ⟨_, rfl⟩
        rw [win_at hab ha hb hd rfl]
        have HA := Lib.hid ha
        have HB := Lib.hid hb
        have HD := Lib.hid hd
        clear ha hb hd
        clear hab
        go_enter Try.func24, Try.ntmps24
        go_wp2_with fail
        obtain ⟨w0, hW⟩ : ∃ w0, w.alloc (.cells #[.slice A n cap, .int .i64 r, .int .i64 s] 26) = w0 := ⟨_, rfl⟩
        rw [hW]
        have B0 := Lib.hid (show Below w.heap.size w w0 by rw [← hW]; exact below_box _ _)
        have X0 := Lib.hid (show Bx 26 w0 w.heap.size #[.slice A n cap, .int .i64 r, .int .i64 s] by rw [← hW]; exact Bx.made _ _ _)
        have R0 := Lib.hid (HR.out.below B0.out)
        clear hW HR
        have c0 : ∀ m : Af w0, m.w.cell? ⟨w.heap.size, 0, none⟩ = some (.slice A n cap) := fun m => (Af.cells X0.out m).cell 0
        have c1 : ∀ m : Af w0, m.w.cell? ⟨w.heap.size, 1, none⟩ = some (.int .i64 r) := fun m => (Af.cells X0.out m).cell 1
        have c2 : ∀ m : Af w0, m.w.cell? ⟨w.heap.size, 2, none⟩ = some (.int .i64 s) := fun m => (Af.cells X0.out m).cell 2
        have k0 := Lib.hid (fun m => by have hh := specPl A n cap r s z a _ _ _ (Af.rd R0.out m); rw [HA.out] at hh; exact hh : ∀ m : Af w0, Calls Try.prog 52 #[.agg #[.slice A n cap, .int .i64 r, .int .i64 s], .int .i64 a] m.w fun e w' => e = .returned (.bool true) ∧ Below m.w.heap.size m.w w')
        have k1 := Lib.hid (fun m => by have hh := specPl A n cap r s z b _ _ _ (Af.rd R0.out m); rw [HB.out] at hh; exact hh : ∀ m : Af w0, Calls Try.prog 52 #[.agg #[.slice A n cap, .int .i64 r, .int .i64 s], .int .i64 b] m.w fun e w' => e = .returned (.bool true) ∧ Below m.w.heap.size m.w w')
        have k2 := Lib.hid (fun m => by have hh := specDst A n cap r s z a b _ _ _ (Af.rd R0.out m); rw [HD.out] at hh; exact hh : ∀ m : Af w0, Calls Try.prog 25 #[.agg #[.slice A n cap, .int .i64 r, .int .i64 s], .int .i64 a, .int .i64 b] m.w fun e w' => e = .returned (.int .i64 d) ∧ Below m.w.heap.size m.w w')
        refine region_after (by kernel_rfl) (by kernel_rfl) ?_
        repeat (go_big_quiet_step ((first
          | (go_at_call 52; with_reducible exact Af.call (k0.out _))
          | (go_at_call 52; with_reducible exact Af.call (k1.out _))
          | (go_at_call 25; with_reducible exact Af.call (k2.out _)))))
        refine wpQuiet_nil ?_
        intro _ hw'
        obtain ⟨nq, hw''⟩ := hw'
        subst hw''
        clear c0 c1 c2 k0 k1 k2
        go_wp2_with fail
        go_ret
        exact ⟨rfl, Af.on B0.out nq⟩
    · have hb2 : plc z b = false := by simpa using hb
      rw [win_no2 hb2]
      have HA := Lib.hid ha
      have HB := Lib.hid hb2
      clear ha hb hb2
      go_enter Try.func24, Try.ntmps24
      go_wp2_with fail
      obtain ⟨w0, hW⟩ : ∃ w0, w.alloc (.cells #[.slice A n cap, .int .i64 r, .int .i64 s] 26) = w0 := ⟨_, rfl⟩
      rw [hW]
      have B0 := Lib.hid (show Below w.heap.size w w0 by rw [← hW]; exact below_box _ _)
      have X0 := Lib.hid (show Bx 26 w0 w.heap.size #[.slice A n cap, .int .i64 r, .int .i64 s] by rw [← hW]; exact Bx.made _ _ _)
      have R0 := Lib.hid (HR.out.below B0.out)
      clear hW HR
      have c0 : ∀ m : Af w0, m.w.cell? ⟨w.heap.size, 0, none⟩ = some (.slice A n cap) := fun m => (Af.cells X0.out m).cell 0
      have c1 : ∀ m : Af w0, m.w.cell? ⟨w.heap.size, 1, none⟩ = some (.int .i64 r) := fun m => (Af.cells X0.out m).cell 1
      have c2 : ∀ m : Af w0, m.w.cell? ⟨w.heap.size, 2, none⟩ = some (.int .i64 s) := fun m => (Af.cells X0.out m).cell 2
      have k0 := Lib.hid (fun m => by have hh := specPl A n cap r s z a _ _ _ (Af.rd R0.out m); rw [HA.out] at hh; exact hh : ∀ m : Af w0, Calls Try.prog 52 #[.agg #[.slice A n cap, .int .i64 r, .int .i64 s], .int .i64 a] m.w fun e w' => e = .returned (.bool true) ∧ Below m.w.heap.size m.w w')
      have k1 := Lib.hid (fun m => by have hh := specPl A n cap r s z b _ _ _ (Af.rd R0.out m); rw [HB.out] at hh; exact hh : ∀ m : Af w0, Calls Try.prog 52 #[.agg #[.slice A n cap, .int .i64 r, .int .i64 s], .int .i64 b] m.w fun e w' => e = .returned (.bool false) ∧ Below m.w.heap.size m.w w')
      refine region_after (by kernel_rfl) (by kernel_rfl) ?_
      repeat (go_big_quiet_step ((first
        | (go_at_call 52; with_reducible exact Af.call (k0.out _))
        | (go_at_call 52; with_reducible exact Af.call (k1.out _)))))
      refine wpQuiet_nil ?_
      intro _ hw'
      obtain ⟨nq, hw''⟩ := hw'
      subst hw''
      clear c0 c1 c2 k0 k1
      go_wp2_with fail
      go_ret
      exact ⟨rfl, Af.on B0.out nq⟩
  · have ha2 : plc z a = false := by simpa using ha
    rw [win_no1 ha2]
    have HA := Lib.hid ha2
    clear ha ha2
    go_enter Try.func24, Try.ntmps24
    go_wp2_with fail
    obtain ⟨w0, hW⟩ : ∃ w0, w.alloc (.cells #[.slice A n cap, .int .i64 r, .int .i64 s] 26) = w0 := ⟨_, rfl⟩
    rw [hW]
    have B0 := Lib.hid (show Below w.heap.size w w0 by rw [← hW]; exact below_box _ _)
    have X0 := Lib.hid (show Bx 26 w0 w.heap.size #[.slice A n cap, .int .i64 r, .int .i64 s] by rw [← hW]; exact Bx.made _ _ _)
    have R0 := Lib.hid (HR.out.below B0.out)
    clear hW HR
    have c0 : ∀ m : Af w0, m.w.cell? ⟨w.heap.size, 0, none⟩ = some (.slice A n cap) := fun m => (Af.cells X0.out m).cell 0
    have c1 : ∀ m : Af w0, m.w.cell? ⟨w.heap.size, 1, none⟩ = some (.int .i64 r) := fun m => (Af.cells X0.out m).cell 1
    have c2 : ∀ m : Af w0, m.w.cell? ⟨w.heap.size, 2, none⟩ = some (.int .i64 s) := fun m => (Af.cells X0.out m).cell 2
    have k0 := Lib.hid (fun m => by have hh := specPl A n cap r s z a _ _ _ (Af.rd R0.out m); rw [HA.out] at hh; exact hh : ∀ m : Af w0, Calls Try.prog 52 #[.agg #[.slice A n cap, .int .i64 r, .int .i64 s], .int .i64 a] m.w fun e w' => e = .returned (.bool false) ∧ Below m.w.heap.size m.w w')
    refine region_after (by kernel_rfl) (by kernel_rfl) ?_
    repeat (go_big_quiet_step ((first
      | (go_at_call 52; with_reducible exact Af.call (k0.out _)))))
    refine wpQuiet_nil ?_
    intro _ hw'
    obtain ⟨nq, hw''⟩ := hw'
    subst hw''
    clear c0 c1 c2 k0
    go_wp2_with fail
    go_ret
    exact ⟨rfl, Af.on B0.out nq⟩
end Go.Proofs.Ytichhbkgebimeaa.bx
