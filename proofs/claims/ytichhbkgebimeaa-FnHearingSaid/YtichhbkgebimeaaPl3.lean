/- Hidden stations, neighbours, valid placements: program and specification. Condition: of neighbours, at most 2^26 positions. -/
import Derived.Test.YtichhbkgebimeaaPl2
import Derived.Test.YtichhbkgebimeaaBits1
namespace Go.Proofs.Ytichhbkgebimeaa.bx
open Go.RowKit sl harn rng plm bm
set_option linter.unusedVariables false

set_option maxRecDepth 100000 in
set_option maxHeartbeats 4000000 in
theorem implHd (A : Option Addr) (n cap : Nat) (r s : Int) (z : List Int) (a b q : Int) (lo hi : Nat) (w : World) (h : Rd .i64 w lo hi A n cap z) :
    Calls Try.prog 20 #[.agg #[.slice A n cap, .int .i64 r, .int .i64 s], .int .i64 a, .int .i64 b, .int .i64 q] w (BPost (hdn z r s a b q) w) := by
  have HR := Lib.hid h
  clear h
  by_cases hab : a = b
  · have hn : (a == b) = true := by simpa using hab
    have hn2 : (a != b) = false := by simp [hab]
    rw [hdn_no0 hab]
    clear hab
    go_enter Try.func20, Try.ntmps20
    go_wp2_with fail
    go_ret
    exact ⟨rfl, below_box _ _⟩
  have hn : (a == b) = false := by simpa using hab
  have hn2 : (a != b) = true := by simpa using hab
  by_cases ha : win z r a q = true
  · by_cases hb : win z r b q = true
    · obtain ⟨v, hv⟩ : ∃ v, win z s a b = v := ⟨_, rfl⟩
      rw [hdn_at hab ha hb hv]
      have HA := Lib.hid ha
      have HB := Lib.hid hb
      have HD := Lib.hid hv
      clear ha hb hv hab
      go_enter Try.func20, Try.ntmps20
      go_wp2_with fail
      obtain ⟨w0, hW⟩ : ∃ w0, w.alloc (.cells #[.slice A n cap, .int .i64 r, .int .i64 s] 26) = w0 := ⟨_, rfl⟩
      rw [hW]
      have B0 := Lib.hid (show Below w.heap.size w w0 by rw [← hW]; exact below_box _ _)
      have X0 := Lib.hid (show Bx 26 w0 w.heap.size #[.slice A n cap, .int .i64 r, .int .i64 s] by rw [← hW]; exact Bx.made _ _ _)
      have R0 := Lib.hid (HR.out.below (show Below w.heap.size w w0 from B0.out))
      clear hW HR
      have c0 : w0.cell? ⟨w.heap.size, 0, none⟩ = some (.slice A n cap) := X0.out.cell 0
      have c1 : w0.cell? ⟨w.heap.size, 1, none⟩ = some (.int .i64 r) := X0.out.cell 1
      have c2 : w0.cell? ⟨w.heap.size, 2, none⟩ = some (.int .i64 s) := X0.out.cell 2
      (with_reducible refine (implCr A n cap r s z a q _ _ _ R0.out).mono ?_)
      rintro e w1 hp
      obtain ⟨rfl, hb⟩ := b_parts HA.out hp
      clear hp
      clear c0 c1 c2
      have B1 := Lib.hid (B0.out.trans (hb.mono B0.out.size))
      have X1 := Lib.hid (X0.out.below hb)
      have R1 := Lib.hid (R0.out.below hb)
      clear hb B0 X0 R0
      have c0 : w1.cell? ⟨w.heap.size, 0, none⟩ = some (.slice A n cap) := X1.out.cell 0
      have c1 : w1.cell? ⟨w.heap.size, 1, none⟩ = some (.int .i64 r) := X1.out.cell 1
      have c2 : w1.cell? ⟨w.heap.size, 2, none⟩ = some (.int .i64 s) := X1.out.cell 2
      go_wp2_with fail
      (with_reducible refine (implCr A n cap r s z b q _ _ _ R1.out).mono ?_)
      rintro e w2 hp
      obtain ⟨rfl, hb⟩ := b_parts HB.out hp
      clear hp
      clear c0 c1 c2
      have B2 := Lib.hid (B1.out.trans (hb.mono B1.out.size))
      have X2 := Lib.hid (X1.out.below hb)
      have R2 := Lib.hid (R1.out.below hb)
      clear hb B1 X1 R1
      have c0 : w2.cell? ⟨w.heap.size, 0, none⟩ = some (.slice A n cap) := X2.out.cell 0
      have c1 : w2.cell? ⟨w.heap.size, 1, none⟩ = some (.int .i64 r) := X2.out.cell 1
      have c2 : w2.cell? ⟨w.heap.size, 2, none⟩ = some (.int .i64 s) := X2.out.cell 2
      go_wp2_with fail
      (with_reducible refine (implCs A n cap r s z a b _ _ _ R2.out).mono ?_)
      rintro e w3 hp
      obtain ⟨rfl, hb⟩ := b_parts HD.out hp
      clear hp
      clear c0 c1 c2
      have B3 := Lib.hid (B2.out.trans (hb.mono B2.out.size))
      have X3 := Lib.hid (X2.out.below hb)
      have R3 := Lib.hid (R2.out.below hb)
      clear hb B2 X2 R2
      go_wp2_with fail
      go_ret
      exact ⟨rfl, B3.out⟩
    · have hb2 : win z r b q = false := by simpa using hb
      rw [hdn_no2 hb2]
      have HA := Lib.hid ha
      have HB := Lib.hid hb2
      clear ha hb hb2 hab
      go_enter Try.func20, Try.ntmps20
      go_wp2_with fail
      obtain ⟨w0, hW⟩ : ∃ w0, w.alloc (.cells #[.slice A n cap, .int .i64 r, .int .i64 s] 26) = w0 := ⟨_, rfl⟩
      rw [hW]
      have B0 := Lib.hid (show Below w.heap.size w w0 by rw [← hW]; exact below_box _ _)
      have X0 := Lib.hid (show Bx 26 w0 w.heap.size #[.slice A n cap, .int .i64 r, .int .i64 s] by rw [← hW]; exact Bx.made _ _ _)
      have R0 := Lib.hid (HR.out.below (show Below w.heap.size w w0 from B0.out))
      clear hW HR
      have c0 : w0.cell? ⟨w.heap.size, 0, none⟩ = some (.slice A n cap) := X0.out.cell 0
      have c1 : w0.cell? ⟨w.heap.size, 1, none⟩ = some (.int .i64 r) := X0.out.cell 1
      have c2 : w0.cell? ⟨w.heap.size, 2, none⟩ = some (.int .i64 s) := X0.out.cell 2
      (with_reducible refine (implCr A n cap r s z a q _ _ _ R0.out).mono ?_)
      rintro e w1 hp
      obtain ⟨rfl, hb⟩ := b_parts HA.out hp
      clear hp
      clear c0 c1 c2
      have B1 := Lib.hid (B0.out.trans (hb.mono B0.out.size))
      have X1 := Lib.hid (X0.out.below hb)
      have R1 := Lib.hid (R0.out.below hb)
      clear hb B0 X0 R0
      have c0 : w1.cell? ⟨w.heap.size, 0, none⟩ = some (.slice A n cap) := X1.out.cell 0
      have c1 : w1.cell? ⟨w.heap.size, 1, none⟩ = some (.int .i64 r) := X1.out.cell 1
      have c2 : w1.cell? ⟨w.heap.size, 2, none⟩ = some (.int .i64 s) := X1.out.cell 2
      go_wp2_with fail
      (with_reducible refine (implCr A n cap r s z b q _ _ _ R1.out).mono ?_)
      rintro e w2 hp
      obtain ⟨rfl, hb⟩ := b_parts HB.out hp
      clear hp
      clear c0 c1 c2
      have B2 := Lib.hid (B1.out.trans (hb.mono B1.out.size))
      have X2 := Lib.hid (X1.out.below hb)
      have R2 := Lib.hid (R1.out.below hb)
      clear hb B1 X1 R1
      go_wp2_with fail
      go_ret
      exact ⟨rfl, B2.out⟩
  · have ha2 : win z r a q = false := by simpa using ha
    rw [hdn_no1 ha2]
    have HA := Lib.hid ha2
    clear ha ha2 hab
    go_enter Try.func20, Try.ntmps20
    go_wp2_with fail
    obtain ⟨w0, hW⟩ : ∃ w0, w.alloc (.cells #[.slice A n cap, .int .i64 r, .int .i64 s] 26) = w0 := ⟨_, rfl⟩
    rw [hW]
    have B0 := Lib.hid (show Below w.heap.size w w0 by rw [← hW]; exact below_box _ _)
    have X0 := Lib.hid (show Bx 26 w0 w.heap.size #[.slice A n cap, .int .i64 r, .int .i64 s] by rw [← hW]; exact Bx.made _ _ _)
    have R0 := Lib.hid (HR.out.below (show Below w.heap.size w w0 from B0.out))
    clear hW HR
    have c0 : w0.cell? ⟨w.heap.size, 0, none⟩ = some (.slice A n cap) := X0.out.cell 0
    have c1 : w0.cell? ⟨w.heap.size, 1, none⟩ = some (.int .i64 r) := X0.out.cell 1
    have c2 : w0.cell? ⟨w.heap.size, 2, none⟩ = some (.int .i64 s) := X0.out.cell 2
    (with_reducible refine (implCr A n cap r s z a q _ _ _ R0.out).mono ?_)
    rintro e w1 hp
    obtain ⟨rfl, hb⟩ := b_parts HA.out hp
    clear hp
    clear c0 c1 c2
    have B1 := Lib.hid (B0.out.trans (hb.mono B0.out.size))
    have X1 := Lib.hid (X0.out.below hb)
    have R1 := Lib.hid (R0.out.below hb)
    clear hb B0 X0 R0
    go_wp2_with fail
    go_ret
    exact ⟨rfl, B1.out⟩
set_option maxRecDepth 100000 in
set_option maxHeartbeats 4000000 in
theorem specHd (A : Option Addr) (n cap : Nat) (r s : Int) (z : List Int) (a b q : Int) (lo hi : Nat) (w : World) (h : Rd .i64 w lo hi A n cap z) :
    Calls Try.prog 37 #[.agg #[.slice A n cap, .int .i64 r, .int .i64 s], .int .i64 a, .int .i64 b, .int .i64 q] w (BPost (hdn z r s a b q) w) := by
  have HR := Lib.hid h
  clear h
  by_cases hab : a = b
  · have hn : (a == b) = true := by simpa using hab
    have hn2 : (a != b) = false := by simp [hab]
    rw [hdn_no0 hab]
    clear hab
    go_enter Try.func37, Try.ntmps37
    go_wp2_with fail
    go_ret
    exact ⟨rfl, below_box _ _⟩
  have hn : (a == b) = false := by simpa using hab
  have hn2 : (a != b) = true := by simpa using hab
  by_cases ha : win z r a q = true
  · by_cases hb : win z r b q = true
    · obtain ⟨v, hv⟩ : ∃ v, win z s a b = v := ⟨_, rfl⟩
      rw [hdn_at hab ha hb hv]
      have HA := Lib.hid ha
      have HB := Lib.hid hb
      have HD := Lib.hid hv
      clear ha hb hv hab
      go_enter Try.func37, Try.ntmps37
      go_wp2_with fail
      obtain ⟨w0, hW⟩ : ∃ w0, w.alloc (.cells #[.slice A n cap, .int .i64 r, .int .i64 s] 26) = w0 := ⟨_, rfl⟩
      rw [hW]
      have B0 := Lib.hid (show Below w.heap.size w w0 by rw [← hW]; exact below_box _ _)
      have X0 := Lib.hid (show Bx 26 w0 w.heap.size #[.slice A n cap, .int .i64 r, .int .i64 s] by rw [← hW]; exact Bx.made _ _ _)
      have R0 := Lib.hid (HR.out.below (show Below w.heap.size w w0 from B0.out))
      clear hW HR
      have c0 : w0.cell? ⟨w.heap.size, 0, none⟩ = some (.slice A n cap) := X0.out.cell 0
      have c1 : w0.cell? ⟨w.heap.size, 1, none⟩ = some (.int .i64 r) := X0.out.cell 1
      have c2 : w0.cell? ⟨w.heap.size, 2, none⟩ = some (.int .i64 s) := X0.out.cell 2
      (with_reducible refine (specCr A n cap r s z a q _ _ _ R0.out).mono ?_)
      rintro e w1 hp
      obtain ⟨rfl, hb⟩ := b_parts HA.out hp
      clear hp
      clear c0 c1 c2
      have B1 := Lib.hid (B0.out.trans (hb.mono B0.out.size))
      have X1 := Lib.hid (X0.out.below hb)
      have R1 := Lib.hid (R0.out.below hb)
      clear hb B0 X0 R0
      have c0 : w1.cell? ⟨w.heap.size, 0, none⟩ = some (.slice A n cap) := X1.out.cell 0
      have c1 : w1.cell? ⟨w.heap.size, 1, none⟩ = some (.int .i64 r) := X1.out.cell 1
      have c2 : w1.cell? ⟨w.heap.size, 2, none⟩ = some (.int .i64 s) := X1.out.cell 2
      go_wp2_with fail
      (with_reducible refine (specCr A n cap r s z b q _ _ _ R1.out).mono ?_)
      rintro e w2 hp
      obtain ⟨rfl, hb⟩ := b_parts HB.out hp
      clear hp
      clear c0 c1 c2
      have B2 := Lib.hid (B1.out.trans (hb.mono B1.out.size))
      have X2 := Lib.hid (X1.out.below hb)
      have R2 := Lib.hid (R1.out.below hb)
      clear hb B1 X1 R1
      have c0 : w2.cell? ⟨w.heap.size, 0, none⟩ = some (.slice A n cap) := X2.out.cell 0
      have c1 : w2.cell? ⟨w.heap.size, 1, none⟩ = some (.int .i64 r) := X2.out.cell 1
      have c2 : w2.cell? ⟨w.heap.size, 2, none⟩ = some (.int .i64 s) := X2.out.cell 2
      go_wp2_with fail
      (with_reducible refine (specCs A n cap r s z a b _ _ _ R2.out).mono ?_)
      rintro e w3 hp
      obtain ⟨rfl, hb⟩ := b_parts HD.out hp
      clear hp
      clear c0 c1 c2
      have B3 := Lib.hid (B2.out.trans (hb.mono B2.out.size))
      have X3 := Lib.hid (X2.out.below hb)
      have R3 := Lib.hid (R2.out.below hb)
      clear hb B2 X2 R2
      go_wp2_with fail
      go_ret
      exact ⟨rfl, B3.out⟩
    · have hb2 : win z r b q = false := by simpa using hb
      rw [hdn_no2 hb2]
      have HA := Lib.hid ha
      have HB := Lib.hid hb2
      clear ha hb hb2 hab
      go_enter Try.func37, Try.ntmps37
      go_wp2_with fail
      obtain ⟨w0, hW⟩ : ∃ w0, w.alloc (.cells #[.slice A n cap, .int .i64 r, .int .i64 s] 26) = w0 := ⟨_, rfl⟩
      rw [hW]
      have B0 := Lib.hid (show Below w.heap.size w w0 by rw [← hW]; exact below_box _ _)
      have X0 := Lib.hid (show Bx 26 w0 w.heap.size #[.slice A n cap, .int .i64 r, .int .i64 s] by rw [← hW]; exact Bx.made _ _ _)
      have R0 := Lib.hid (HR.out.below (show Below w.heap.size w w0 from B0.out))
      clear hW HR
      have c0 : w0.cell? ⟨w.heap.size, 0, none⟩ = some (.slice A n cap) := X0.out.cell 0
      have c1 : w0.cell? ⟨w.heap.size, 1, none⟩ = some (.int .i64 r) := X0.out.cell 1
      have c2 : w0.cell? ⟨w.heap.size, 2, none⟩ = some (.int .i64 s) := X0.out.cell 2
      (with_reducible refine (specCr A n cap r s z a q _ _ _ R0.out).mono ?_)
      rintro e w1 hp
      obtain ⟨rfl, hb⟩ := b_parts HA.out hp
      clear hp
      clear c0 c1 c2
      have B1 := Lib.hid (B0.out.trans (hb.mono B0.out.size))
      have X1 := Lib.hid (X0.out.below hb)
      have R1 := Lib.hid (R0.out.below hb)
      clear hb B0 X0 R0
      have c0 : w1.cell? ⟨w.heap.size, 0, none⟩ = some (.slice A n cap) := X1.out.cell 0
      have c1 : w1.cell? ⟨w.heap.size, 1, none⟩ = some (.int .i64 r) := X1.out.cell 1
      have c2 : w1.cell? ⟨w.heap.size, 2, none⟩ = some (.int .i64 s) := X1.out.cell 2
      go_wp2_with fail
      (with_reducible refine (specCr A n cap r s z b q _ _ _ R1.out).mono ?_)
      rintro e w2 hp
      obtain ⟨rfl, hb⟩ := b_parts HB.out hp
      clear hp
      clear c0 c1 c2
      have B2 := Lib.hid (B1.out.trans (hb.mono B1.out.size))
      have X2 := Lib.hid (X1.out.below hb)
      have R2 := Lib.hid (R1.out.below hb)
      clear hb B1 X1 R1
      go_wp2_with fail
      go_ret
      exact ⟨rfl, B2.out⟩
  · have ha2 : win z r a q = false := by simpa using ha
    rw [hdn_no1 ha2]
    have HA := Lib.hid ha2
    clear ha ha2 hab
    go_enter Try.func37, Try.ntmps37
    go_wp2_with fail
    obtain ⟨w0, hW⟩ : ∃ w0, w.alloc (.cells #[.slice A n cap, .int .i64 r, .int .i64 s] 26) = w0 := ⟨_, rfl⟩
    rw [hW]
    have B0 := Lib.hid (show Below w.heap.size w w0 by rw [← hW]; exact below_box _ _)
    have X0 := Lib.hid (show Bx 26 w0 w.heap.size #[.slice A n cap, .int .i64 r, .int .i64 s] by rw [← hW]; exact Bx.made _ _ _)
    have R0 := Lib.hid (HR.out.below (show Below w.heap.size w w0 from B0.out))
    clear hW HR
    have c0 : w0.cell? ⟨w.heap.size, 0, none⟩ = some (.slice A n cap) := X0.out.cell 0
    have c1 : w0.cell? ⟨w.heap.size, 1, none⟩ = some (.int .i64 r) := X0.out.cell 1
    have c2 : w0.cell? ⟨w.heap.size, 2, none⟩ = some (.int .i64 s) := X0.out.cell 2
    (with_reducible refine (specCr A n cap r s z a q _ _ _ R0.out).mono ?_)
    rintro e w1 hp
    obtain ⟨rfl, hb⟩ := b_parts HA.out hp
    clear hp
    clear c0 c1 c2
    have B1 := Lib.hid (B0.out.trans (hb.mono B0.out.size))
    have X1 := Lib.hid (X0.out.below hb)
    have R1 := Lib.hid (R0.out.below hb)
    clear hb B0 X0 R0
    go_wp2_with fail
    go_ret
    exact ⟨rfl, B1.out⟩
/-- Neighbours being gathered. -/
def Nb (z : List Int) (l a : Int) (w wr : World) (k : Nat) (v : Value) : Prop :=
  ∃ A q cp, v = .slice A q cp ∧ Ow 3 .i64 wr w.heap.size wr.heap.size A q cp (nbs z l a k) ∧ Below w.heap.size w wr
set_option maxRecDepth 100000 in
set_option maxHeartbeats 4000000 in
theorem implNb (A : Option Addr) (n cap : Nat) (r s : Int) (z : List Int) (a : Int) (lo hi : Nat) (w : World) (h : Rd .i64 w lo hi A n cap z) (hn : n ≤ 67108864) :
    Calls Try.prog 19 #[.agg #[.slice A n cap, .int .i64 r, .int .i64 s], .int .i64 a] w (SlPost 3 .i64 w (nbs z r a z.length)) := by
  have hc := h.cap_
  have HR := Lib.hid h
  have HL := Lib.hid h.len
  obtain ⟨i0, hi0, hz0, hz1, hz2⟩ := info_parts intInfo
  have HZ := Lib.hid (And.intro hi0 (And.intro hz0 (And.intro hz1 hz2)))
  clear h hi0 hz0 hz1 hz2
  go_enter Try.func19, Try.ntmps19
  go_wp2_with fail
  obtain ⟨w0, hW⟩ : ∃ w0, w.alloc (.cells #[.slice A n cap, .int .i64 r, .int .i64 s] 26) = w0 := ⟨_, rfl⟩
  rw [hW]
  have B0 := Lib.hid (show Below w.heap.size w w0 by rw [← hW]; exact below_box _ _)
  have S0 := Lib.hid (show w0.heap.size = w.heap.size + 1 by rw [← hW]; simp)
  have X0 := Lib.hid (show Bx 26 w0 w.heap.size #[.slice A n cap, .int .i64 r, .int .i64 s] by rw [← hW]; exact Bx.made _ _ _)
  have R0 := Lib.hid (HR.out.below B0.out)
  clear hW HR
  go_loopw [5, 11] (fun v i wr => ∃ k : Nat, i = .int .i64 k ∧ k ≤ n ∧ Nb z r a w0 wr k v) (fun _ i _ => n - (intOf i).toNat)
  case atStart => exact ⟨0, rfl, by omega, _, _, _, rfl, by have hh := (Ow.empty 3 .i64 w0).up; have e := S0.out; simpa [e, nbs_zero] using hh, (Below.refl _ _).alloc (Nat.le_refl _) _⟩
  case round =>
    obtain ⟨k, rfl, hk, A1, q1, c1, rfl, ho, hb⟩ := hrel
    have HO := Lib.hid ho
    have HB := Lib.hid hb
    have hq : q1 ≤ 67108864 := by have h1 := ho.len; have h2 := nbs_len z r a k; omega
    have X1 := Lib.hid (X0.out.below hb)
    have R1 := Lib.hid (R0.out.below hb)
    clear ho hb
    have cc0 : wr.cell? ⟨w.heap.size, 0, none⟩ = some (.slice A n cap) := X1.out.cell 0
    have cc1 : wr.cell? ⟨w.heap.size, 1, none⟩ = some (.int .i64 r) := X1.out.cell 1
    have cc2 : wr.cell? ⟨w.heap.size, 2, none⟩ = some (.int .i64 s) := X1.out.cell 2
    by_cases hlt : k < n
    · have hlt2 : (k : Int) < n := by omega
      have HW := Lib.hid (show (Lit.int .i64 (k : Int)).wf = true from WalkArith.wf_i64 (by omega))
      by_cases hwin : win z r a k = true
      · have HV := Lib.hid hwin
        have HN := Lib.hid (nbs_yes hwin)
        clear hwin
        go_wp2_with fail
        (with_reducible refine (implCr A n cap r s z a (k : Int) _ _ _ R1.out).mono ?_)
        rintro e w2 hp
        obtain ⟨rfl, hb⟩ := b_parts HV.out hp
        clear hp
        have HO2 := Lib.hid (HO.out.below hb).up
        have HB2 := Lib.hid (HB.out.trans (hb.mono HB.out.size))
        clear hb HO HB X1 R1 cc0 cc1 cc2
        go_wp2_with (at_builtin; refine wpList_app _ rfl _ _ 24 rfl 3 i0 _ .i64 Try.underlying24 HZ.out.1 HZ.out.2.1 HZ.out.2.2.1 (by rw [HZ.out.2.2.2]; omega) rfl rfl rfl (HO2.out.alloc _) (Rd.one .i64 _ _ _ HW.out) (by omega) (by have := HB2.out.size; simp; omega) ?_; intro A2 cap2 w6 ho hb1; have O6 := Lib.hid ho; have B6 := Lib.hid ((HB2.out.alloc HB2.out.size _).trans hb1); clear ho hb1)
        go_roundw
        case rel => exact ⟨k + 1, by go_num, by omega, _, _, _, rfl, by rw [HN.out]; exact O6.out, B6.out⟩
        case measure => simp [intOf]; omega
      · have hwin : win z r a k = false := by simpa using hwin
        have HV := Lib.hid hwin
        have HN := Lib.hid (nbs_no hwin)
        clear hwin
        go_wp2_with fail
        (with_reducible refine (implCr A n cap r s z a (k : Int) _ _ _ R1.out).mono ?_)
        rintro e w2 hp
        obtain ⟨rfl, hb⟩ := b_parts HV.out hp
        clear hp
        have HO2 := Lib.hid (HO.out.below hb).up
        have HB2 := Lib.hid (HB.out.trans (hb.mono HB.out.size))
        clear hb HO HB X1 R1 cc0 cc1 cc2
        go_wp2_with fail
        go_roundw
        case rel => exact ⟨k + 1, by go_num, by omega, _, _, _, rfl, by rw [HN.out]; exact HO2.out, HB2.out⟩
        case measure => simp [intOf]; omega
    · have hlt2 : ¬ (k : Int) < n := by omega
      obtain rfl : k = n := by omega
      go_wp2_with fail
      go_ret
      rw [← HL.out]
      exact ⟨_, _, _, rfl, (by have hh := HO.out; rw [← HL.out] at hh; exact hh.down (by have := B0.out.size; omega)), B0.out.trans (HB.out.mono B0.out.size)⟩
set_option maxRecDepth 100000 in
set_option maxHeartbeats 4000000 in
theorem specNb (A : Option Addr) (n cap : Nat) (r s : Int) (z : List Int) (a : Int) (lo hi : Nat) (w : World) (h : Rd .i64 w lo hi A n cap z) (hn : n ≤ 67108864) :
    Calls Try.prog 32 #[.agg #[.slice A n cap, .int .i64 r, .int .i64 s], .int .i64 a] w (SlPost 3 .i64 w (nbs z r a z.length)) := by
  have hc := h.cap_
  have HR := Lib.hid h
  have HL := Lib.hid h.len
  obtain ⟨i0, hi0, hz0, hz1, hz2⟩ := info_parts intInfo
  have HZ := Lib.hid (And.intro hi0 (And.intro hz0 (And.intro hz1 hz2)))
  clear h hi0 hz0 hz1 hz2
  go_enter Try.func32, Try.ntmps32
  go_wp2_with fail
  obtain ⟨w0, hW⟩ : ∃ w0, w.alloc (.cells #[.slice A n cap, .int .i64 r, .int .i64 s] 26) = w0 := ⟨_, rfl⟩
  rw [hW]
  have B0 := Lib.hid (show Below w.heap.size w w0 by rw [← hW]; exact below_box _ _)
  have S0 := Lib.hid (show w0.heap.size = w.heap.size + 1 by rw [← hW]; simp)
  have X0 := Lib.hid (show Bx 26 w0 w.heap.size #[.slice A n cap, .int .i64 r, .int .i64 s] by rw [← hW]; exact Bx.made _ _ _)
  have R0 := Lib.hid (HR.out.below B0.out)
  clear hW HR
  go_loopw [5, 6] (fun v i wr => ∃ k : Nat, i = .int .i64 k ∧ k ≤ n ∧ Nb z r a w0 wr k v) (fun _ i _ => n - (intOf i).toNat)
  case atStart => exact ⟨0, rfl, by omega, _, _, _, rfl, by have hh := (Ow.empty 3 .i64 w0).up; have e := S0.out; simpa [e, nbs_zero] using hh, (Below.refl _ _).alloc (Nat.le_refl _) _⟩
  case round =>
    obtain ⟨k, rfl, hk, A1, q1, c1, rfl, ho, hb⟩ := hrel
    have HO := Lib.hid ho
    have HB := Lib.hid hb
    have hq : q1 ≤ 67108864 := by have h1 := ho.len; have h2 := nbs_len z r a k; omega
    have X1 := Lib.hid (X0.out.below hb)
    have R1 := Lib.hid (R0.out.below hb)
    clear ho hb
    have cc0 : wr.cell? ⟨w.heap.size, 0, none⟩ = some (.slice A n cap) := X1.out.cell 0
    have cc1 : wr.cell? ⟨w.heap.size, 1, none⟩ = some (.int .i64 r) := X1.out.cell 1
    have cc2 : wr.cell? ⟨w.heap.size, 2, none⟩ = some (.int .i64 s) := X1.out.cell 2
    by_cases hlt : k < n
    · have hlt2 : (k : Int) < n := by omega
      have HW := Lib.hid (show (Lit.int .i64 (k : Int)).wf = true from WalkArith.wf_i64 (by omega))
      by_cases hwin : win z r a k = true
      · have HV := Lib.hid hwin
        have HN := Lib.hid (nbs_yes hwin)
        clear hwin
        go_wp2_with fail
        (with_reducible refine (specCr A n cap r s z a (k : Int) _ _ _ R1.out).mono ?_)
        rintro e w2 hp
        obtain ⟨rfl, hb⟩ := b_parts HV.out hp
        clear hp
        have HO2 := Lib.hid (HO.out.below hb).up
        have HB2 := Lib.hid (HB.out.trans (hb.mono HB.out.size))
        clear hb HO HB X1 R1 cc0 cc1 cc2
        go_wp2_with (at_builtin; refine wpList_app _ rfl _ _ 24 rfl 3 i0 _ .i64 Try.underlying24 HZ.out.1 HZ.out.2.1 HZ.out.2.2.1 (by rw [HZ.out.2.2.2]; omega) rfl rfl rfl (HO2.out.alloc _) (Rd.one .i64 _ _ _ HW.out) (by omega) (by have := HB2.out.size; simp; omega) ?_; intro A2 cap2 w6 ho hb1; have O6 := Lib.hid ho; have B6 := Lib.hid ((HB2.out.alloc HB2.out.size _).trans hb1); clear ho hb1)
        go_roundw
        case rel => exact ⟨k + 1, by go_num, by omega, _, _, _, rfl, by rw [HN.out]; exact O6.out, B6.out⟩
        case measure => simp [intOf]; omega
      · have hwin : win z r a k = false := by simpa using hwin
        have HV := Lib.hid hwin
        have HN := Lib.hid (nbs_no hwin)
        clear hwin
        go_wp2_with fail
        (with_reducible refine (specCr A n cap r s z a (k : Int) _ _ _ R1.out).mono ?_)
        rintro e w2 hp
        obtain ⟨rfl, hb⟩ := b_parts HV.out hp
        clear hp
        have HO2 := Lib.hid (HO.out.below hb).up
        have HB2 := Lib.hid (HB.out.trans (hb.mono HB.out.size))
        clear hb HO HB X1 R1 cc0 cc1 cc2
        go_wp2_with fail
        go_roundw
        case rel => exact ⟨k + 1, by go_num, by omega, _, _, _, rfl, by rw [HN.out]; exact HO2.out, HB2.out⟩
        case measure => simp [intOf]; omega
    · have hlt2 : ¬ (k : Int) < n := by omega
      obtain rfl : k = n := by omega
      go_wp2_with fail
      go_ret
      rw [← HL.out]
      exact ⟨_, _, _, rfl, (by have hh := HO.out; rw [← HL.out] at hh; exact hh.down (by have := B0.out.size; omega)), B0.out.trans (HB.out.mono B0.out.size)⟩
/-- A valid placement. -/
def vpl (z : List Int) (r s : Int) : Bool := decide (1 ≤ (z.length : Int) ∧ (z.length : Int) ≤ 16) && (inr z 0 1000 && (decide (1 ≤ r ∧ r ≤ s) && decide (s ≤ 1000)))
set_option maxRecDepth 100000 in
set_option maxHeartbeats 4000000 in
theorem implVp (A : Option Addr) (n cap : Nat) (r s : Int) (z : List Int) (lo hi : Nat) (w : World) (h : Rd .i64 w lo hi A n cap z) :
    Calls Try.prog 14 #[.agg #[.slice A n cap, .int .i64 r, .int .i64 s]] w (BPost (vpl z r s) w) := by
  have hl := h.len
  have HR := Lib.hid h
  have hc := h.cap_
  clear h
  obtain ⟨v1, h1⟩ : ∃ v, decide (1 ≤ (n : Int) ∧ (n : Int) ≤ 16) = v := ⟨_, rfl⟩
  obtain ⟨v2, h2⟩ : ∃ v, inr z 0 1000 = v := ⟨_, rfl⟩
  obtain ⟨v3, h3⟩ : ∃ v, decide (1 ≤ r ∧ r ≤ s) = v := ⟨_, rfl⟩
  have hv : vpl z r s = (v1 && (v2 && (v3 && decide (s ≤ 1000)))) := by unfold vpl; rw [hl, h1, h2, h3]
  rw [hv]
  have H1 := Lib.hid h1
  have H2 := Lib.hid h2
  have H3 := Lib.hid h3
  clear h1 h2 h3 hv hl
  cases v1 with
  | false =>
    go_enter Try.func14, Try.ntmps14
    go_wp2_with fail
    obtain ⟨w0, hW⟩ : ∃ w0, w.alloc (.cells #[.slice A n cap, .int .i64 r, .int .i64 s] 26) = w0 := ⟨_, rfl⟩
    rw [hW]
    have B0 := Lib.hid (show Below w.heap.size w w0 by rw [← hW]; exact below_box _ _)
    have X0 := Lib.hid (show Bx 26 w0 w.heap.size #[.slice A n cap, .int .i64 r, .int .i64 s] by rw [← hW]; exact Bx.made _ _ _)
    have R0 := Lib.hid (HR.out.below (show Below w.heap.size w w0 from B0.out))
    clear hW HR
    (with_reducible refine (inR _ _ _ _ _ H1.out).mono ?_)
    rintro e w1 ⟨rfl, rfl⟩
    have c0 : w0.cell? ⟨w.heap.size, 0, none⟩ = some (.slice A n cap) := X0.out.cell 0
    have c1 : w0.cell? ⟨w.heap.size, 1, none⟩ = some (.int .i64 r) := X0.out.cell 1
    have c2 : w0.cell? ⟨w.heap.size, 2, none⟩ = some (.int .i64 s) := X0.out.cell 2
    go_wp2_with fail
    go_ret
    exact ⟨rfl, B0.out⟩
  | true =>
    cases v2 with
    | false =>
      go_enter Try.func14, Try.ntmps14
      go_wp2_with fail
      obtain ⟨w0, hW⟩ : ∃ w0, w.alloc (.cells #[.slice A n cap, .int .i64 r, .int .i64 s] 26) = w0 := ⟨_, rfl⟩
      rw [hW]
      have B0 := Lib.hid (show Below w.heap.size w w0 by rw [← hW]; exact below_box _ _)
      have X0 := Lib.hid (show Bx 26 w0 w.heap.size #[.slice A n cap, .int .i64 r, .int .i64 s] by rw [← hW]; exact Bx.made _ _ _)
      have R0 := Lib.hid (HR.out.below (show Below w.heap.size w w0 from B0.out))
      clear hW HR
      (with_reducible refine (inR _ _ _ _ _ H1.out).mono ?_)
      rintro e w1 ⟨rfl, rfl⟩
      have c0 : w0.cell? ⟨w.heap.size, 0, none⟩ = some (.slice A n cap) := X0.out.cell 0
      have c1 : w0.cell? ⟨w.heap.size, 1, none⟩ = some (.int .i64 r) := X0.out.cell 1
      have c2 : w0.cell? ⟨w.heap.size, 2, none⟩ = some (.int .i64 s) := X0.out.cell 2
      go_wp2_with fail
      (with_reducible refine (bits.areIn 0 1000 z _ _ A n cap _ R0.out).mono ?_)
      rw [H2.out]
      rintro e w1 ⟨rfl, rfl⟩
      go_wp2_with fail
      go_ret
      exact ⟨rfl, B0.out⟩
    | true =>
      cases v3 with
      | false =>
        go_enter Try.func14, Try.ntmps14
        go_wp2_with fail
        obtain ⟨w0, hW⟩ : ∃ w0, w.alloc (.cells #[.slice A n cap, .int .i64 r, .int .i64 s] 26) = w0 := ⟨_, rfl⟩
        rw [hW]
        have B0 := Lib.hid (show Below w.heap.size w w0 by rw [← hW]; exact below_box _ _)
        have X0 := Lib.hid (show Bx 26 w0 w.heap.size #[.slice A n cap, .int .i64 r, .int .i64 s] by rw [← hW]; exact Bx.made _ _ _)
        have R0 := Lib.hid (HR.out.below (show Below w.heap.size w w0 from B0.out))
        clear hW HR
        (with_reducible refine (inR _ _ _ _ _ H1.out).mono ?_)
        rintro e w1 ⟨rfl, rfl⟩
        have c0 : w0.cell? ⟨w.heap.size, 0, none⟩ = some (.slice A n cap) := X0.out.cell 0
        have c1 : w0.cell? ⟨w.heap.size, 1, none⟩ = some (.int .i64 r) := X0.out.cell 1
        have c2 : w0.cell? ⟨w.heap.size, 2, none⟩ = some (.int .i64 s) := X0.out.cell 2
        go_wp2_with fail
        (with_reducible refine (bits.areIn 0 1000 z _ _ A n cap _ R0.out).mono ?_)
        rw [H2.out]
        rintro e w1 ⟨rfl, rfl⟩
        go_wp2_with fail
        (with_reducible refine (inR _ _ _ _ _ H3.out).mono ?_)
        rintro e w1 ⟨rfl, rfl⟩
        go_wp2_with fail
        go_ret
        exact ⟨rfl, B0.out⟩
      | true =>
        go_enter Try.func14, Try.ntmps14
        go_wp2_with fail
        obtain ⟨w0, hW⟩ : ∃ w0, w.alloc (.cells #[.slice A n cap, .int .i64 r, .int .i64 s] 26) = w0 := ⟨_, rfl⟩
        rw [hW]
        have B0 := Lib.hid (show Below w.heap.size w w0 by rw [← hW]; exact below_box _ _)
        have X0 := Lib.hid (show Bx 26 w0 w.heap.size #[.slice A n cap, .int .i64 r, .int .i64 s] by rw [← hW]; exact Bx.made _ _ _)
        have R0 := Lib.hid (HR.out.below (show Below w.heap.size w w0 from B0.out))
        clear hW HR
        (with_reducible refine (inR _ _ _ _ _ H1.out).mono ?_)
        rintro e w1 ⟨rfl, rfl⟩
        have c0 : w0.cell? ⟨w.heap.size, 0, none⟩ = some (.slice A n cap) := X0.out.cell 0
        have c1 : w0.cell? ⟨w.heap.size, 1, none⟩ = some (.int .i64 r) := X0.out.cell 1
        have c2 : w0.cell? ⟨w.heap.size, 2, none⟩ = some (.int .i64 s) := X0.out.cell 2
        go_wp2_with fail
        (with_reducible refine (bits.areIn 0 1000 z _ _ A n cap _ R0.out).mono ?_)
        rw [H2.out]
        rintro e w1 ⟨rfl, rfl⟩
        go_wp2_with fail
        (with_reducible refine (inR _ _ _ _ _ H3.out).mono ?_)
        rintro e w1 ⟨rfl, rfl⟩
        go_wp2_with fail
        go_ret
        exact ⟨rfl, B0.out⟩
set_option maxRecDepth 100000 in
set_option maxHeartbeats 4000000 in
theorem specVp (A : Option Addr) (n cap : Nat) (r s : Int) (z : List Int) (lo hi : Nat) (w : World) (h : Rd .i64 w lo hi A n cap z) :
    Calls Try.prog 28 #[.agg #[.slice A n cap, .int .i64 r, .int .i64 s]] w (BPost (vpl z r s) w) := by
  have hl := h.len
  have HR := Lib.hid h
  have hc := h.cap_
  clear h
  obtain ⟨v1, h1⟩ : ∃ v, decide (1 ≤ (n : Int) ∧ (n : Int) ≤ 16) = v := ⟨_, rfl⟩
  obtain ⟨v2, h2⟩ : ∃ v, inr z 0 1000 = v := ⟨_, rfl⟩
  obtain ⟨v3, h3⟩ : ∃ v, decide (1 ≤ r ∧ r ≤ s) = v := ⟨_, rfl⟩
  have hv : vpl z r s = (v1 && (v2 && (v3 && decide (s ≤ 1000)))) := by unfold vpl; rw [hl, h1, h2, h3]
  rw [hv]
  have H1 := Lib.hid h1
  have H2 := Lib.hid h2
  have H3 := Lib.hid h3
  have HL := Lib.hid hl
  clear h1 h2 h3 hv hl
  go_enter Try.func28, Try.ntmps28
  go_wp2_with fail
  obtain ⟨w0, hW⟩ : ∃ w0, w.alloc (.cells #[.slice A n cap, .int .i64 r, .int .i64 s] 26) = w0 := ⟨_, rfl⟩
  rw [hW]
  have B0 := Lib.hid (show Below w.heap.size w w0 by rw [← hW]; exact below_box _ _)
  have X0 := Lib.hid (show Bx 26 w0 w.heap.size #[.slice A n cap, .int .i64 r, .int .i64 s] by rw [← hW]; exact Bx.made _ _ _)
  have R0 := Lib.hid (HR.out.below (show Below w.heap.size w w0 from B0.out))
  clear hW HR
  go_loop [3] (fun i => ∃ k : Nat, i = .int .i64 k ∧ k ≤ n ∧ ∀ j, j < k → 0 ≤ z.getD j 0 ∧ z.getD j 0 ≤ 1000) (fun i => n - (intOf i).toNat)
  case atStart => exact ⟨0, rfl, by omega, fun j h => absurd h (by omega)⟩
  case round =>
    obtain ⟨k, rfl, hk, hall⟩ := hrel
    have HA := Lib.hid hall
    clear hall
    have c0 : w0.cell? ⟨w.heap.size, 0, none⟩ = some (.slice A n cap) := X0.out.cell 0
    have c1 : w0.cell? ⟨w.heap.size, 1, none⟩ = some (.int .i64 r) := X0.out.cell 1
    have c2 : w0.cell? ⟨w.heap.size, 2, none⟩ = some (.int .i64 s) := X0.out.cell 2
    by_cases hlt : k < n
    · obtain ⟨b, off, rfl, _, _, hcell⟩ := R0.out.at_ hlt
      obtain ⟨x, hx⟩ : ∃ x, z.getD k 0 = x := ⟨_, rfl⟩
      rw [hx] at hcell
      have HX := Lib.hid hx
      clear hx
      have hlt2 : (k : Int) < n := by omega
      by_cases h01 : 0 ≤ x ∧ x ≤ 1000
      · have H01 := Lib.hid h01
        clear h01
        go_wp2_with (go_at_call 56; refine (l1In_yes x 0 1000 H01.out _).mono ?_; rintro e w1 ⟨rfl, rfl⟩)
        go_round
        case rel => exact ⟨k + 1, by go_num, by omega, bm.next_in HA.out HX.out H01.out.1 H01.out.2⟩
        case measure => simp [intOf]; omega
      · have H01 := Lib.hid h01
        clear h01
        have h2 : v2 = false := by rw [← H2.out]; exact inr_no (i := k) (by rw [HL.out]; exact hlt) (by rw [HX.out]; exact H01.out)
        have H02 := Lib.hid h2
        clear h2
        go_wp2_with (go_at_call 56; refine (l1In_no x 0 1000 H01.out _).mono ?_; rintro e w1 ⟨rfl, rfl⟩)
        go_ret
        rw [H02.out]
        exact ⟨by cases v1 <;> rfl, B0.out⟩
    · have hlt2 : ¬ (k : Int) < n := by omega
      obtain rfl : k = n := by omega
      have h2 : v2 = true := by rw [← H2.out]; exact inr_of_at fun i hi => HA.out i (by rw [← HL.out]; exact hi)
      have H02 := Lib.hid h2
      clear h2
      cases v1 with
      | false =>
        go_wp2_with fail
        (with_reducible refine (l1R _ _ _ _ _ H1.out).mono ?_)
        rintro e w1 ⟨rfl, rfl⟩
        go_wp2_with fail
        go_ret
        rw [H02.out]
        exact ⟨rfl, B0.out⟩
      | true =>
        cases v3 with
        | false =>
          go_wp2_with fail
          (with_reducible refine (l1R _ _ _ _ _ H1.out).mono ?_)
          rintro e w1 ⟨rfl, rfl⟩
          go_wp2_with fail
          (with_reducible refine (l1R _ _ _ _ _ H3.out).mono ?_)
          rintro e w1 ⟨rfl, rfl⟩
          go_wp2_with fail
          go_ret
          rw [H02.out]
          exact ⟨rfl, B0.out⟩
        | true =>
          go_wp2_with fail
          (with_reducible refine (l1R _ _ _ _ _ H1.out).mono ?_)
          rintro e w1 ⟨rfl, rfl⟩
          go_wp2_with fail
          (with_reducible refine (l1R _ _ _ _ _ H3.out).mono ?_)
          rintro e w1 ⟨rfl, rfl⟩
          go_wp2_with fail
          go_ret
          rw [H02.out]
          exact ⟨rfl, B0.out⟩
end Go.Proofs.Ytichhbkgebimeaa.bx
