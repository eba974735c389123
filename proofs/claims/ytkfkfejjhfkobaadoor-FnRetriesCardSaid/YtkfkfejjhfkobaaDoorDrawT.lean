/- Draws of stage 14: parameters, and a number of failures. Condition: the bytes that are drawn from are a slice that came in. -/
import Derived.Test.YtkfkfejjhfkobaaDoorDrk
import Derived.Test.YtkfkfejjhfkobaaDoorAc4
import Derived.Deep.RegionHeld3
namespace Go.Proofs.YtkfkfejjhfkobaaDoor.draw
open Go.RowKit sl harn bx drk
set_option linter.unusedVariables false

/-- Some parameters. -/
def ParPost (p : Nat) (a : Option Addr) (len cap : Nat) (w : World) (e : Ending) (w' : World) : Prop :=
  ∃ x y z u : Int, e = .returned (.agg #[.int .i64 x, .int .i64 y, .int .i64 z, .int .i64 u]) ∧ Keep p w w' ∧ Cur w' p a len cap
/-- Some parameters and a number of failures. -/
def WaDraw (w : World) (e : Ending) (w' : World) : Prop :=
  ∃ x y z u n : Int, e = .returned (.tuple #[.agg #[.int .i64 x, .int .i64 y, .int .i64 z, .int .i64 u], .int .i64 n]) ∧ (-1 ≤ n ∧ n ≤ 21) ∧ Below w.heap.size w w'

set_option maxRecDepth 100000 in
set_option maxHeartbeats 4000000 in
theorem par (w : World) (p : Nat) (a : Option Addr) (len cap : Nat) (hc : Cur w p a len cap) :
    Calls Tryd.prog 45 #[.pointer (some ⟨p, 0, none⟩)] w (ParPost p a len cap w) := by
  have C0 := Lib.hid hc
  have P0 := Lib.hid hc.lt
  clear hc
  go_enter Tryd.func45, Tryd.ntmps45
  go_wp2_with fail
  generalize hW : w.alloc (.cells #[.int .i64 0, .int .i64 0, .int .i64 0, .int .i64 0] 26) = w1
  have K1 := Lib.hid (show Keep p w w1 by rw [← hW]; exact (Keep.refl p w).alloc _)
  have C1 := Lib.hid (show Cur w1 p a len cap by rw [← hW]; exact C0.out.alloc _)
  have X1 := Lib.hid (show Bx 26 w1 w.heap.size #[.int .i64 0, .int .i64 0, .int .i64 0, .int .i64 0] by rw [← hW]; exact Bx.made _ _ _)
  clear hW
  (with_reducible refine (below 4 (by omega) _ p a len cap C1.out).mono ?_)
  rintro e w2 ⟨k, rfl, hx0, hx1, hk, hc⟩
  have K2 := Lib.hid (K1.out.trans hk)
  have C2 := Lib.hid hc
  have X2 := Lib.hid (bx_keep X1.out hk (by have := P0.out; omega))
  clear hk hc K1 C1 X1 hx0 hx1
  go_wp2_with fail
  obtain ⟨⟨q0, q1, q2, q3⟩, hq⟩ : ∃ q, pvs k = q := ⟨_, rfl⟩
  (with_reducible refine (specPar k _).mono ?_)
  rw [hq]
  rintro e w2b ⟨rfl, hb⟩
  have K2b := Lib.hid (later K2.out K2.out.size hb)
  have C2b := Lib.hid (cur_below C2.out hb)
  have X2b := Lib.hid (X2.out.below hb)
  clear hb K2 C2 X2 hq
  obtain ⟨b, hb⟩ : ∃ b, w2b.heap.size = b := ⟨_, rfl⟩
  have S3 := Lib.hid (show w.heap.size < b by rw [← hb]; exact X2b.out.lt)
  go_wp2_with fail
  generalize hW : w2b.alloc (.cells #[.int .i64 q0, .int .i64 q1, .int .i64 q2, .int .i64 q3] 26) = w3
  have K3 := Lib.hid (show Keep p w w3 by rw [← hW]; exact K2b.out.alloc _)
  have C3 := Lib.hid (show Cur w3 p a len cap by rw [← hW]; exact C2b.out.alloc _)
  have X3 := Lib.hid (show Bx 26 w3 w.heap.size #[.int .i64 0, .int .i64 0, .int .i64 0, .int .i64 0] by rw [← hW]; exact X2b.out.below (below_box _ _))
  have Y3 := Lib.hid (show Bx 26 w3 b #[.int .i64 q0, .int .i64 q1, .int .i64 q2, .int .i64 q3] by rw [← hW, ← hb]; exact Bx.made _ _ _)
  clear hW hb K2b C2b X2b
  (with_reducible refine (below 8 (by omega) _ p a len cap C3.out).mono ?_)
  rintro e w4 ⟨x, rfl, hx0, hx1, hk, hc⟩
  have K4 := Lib.hid (K3.out.trans hk)
  have C4 := Lib.hid hc
  have X4 := Lib.hid (bx_keep X3.out hk (by have := P0.out; omega))
  have Y4 := Lib.hid (bx_keep Y3.out hk (by have := P0.out; have := S3.out; omega))
  clear hk hc hx1 K3 C3 X3 Y3
  by_cases h0 : x = 0
  · subst h0
    go_wp2_with fail
    (with_reducible refine (pickIn 0 16 4 (by omega) (by omega) _ p a len cap C4.out #[.int .i64 0, .int .i64 1, .int .i64 15, .int .i64 16] rfl (by decide)).mono ?_)
    rintro e w5 ⟨v, rfl, hv0, hv1, hk, hc⟩
    have K5 := Lib.hid (K4.out.trans hk)
    have C5 := Lib.hid hc
    have X5 := Lib.hid (bx_keep X4.out hk (by have := P0.out; omega))
    have Y5 := Lib.hid (bx_keep Y4.out hk (by have := P0.out; have := S3.out; omega))
    have y0 : w5.cell? ⟨b, 0, none⟩ = some (.int .i64 q0) := Y5.out.cell 0
    have y1 : w5.cell? ⟨b, 1, none⟩ = some (.int .i64 q1) := Y5.out.cell 1
    have y2 : w5.cell? ⟨b, 2, none⟩ = some (.int .i64 q2) := Y5.out.cell 2
    have y3 : w5.cell? ⟨b, 3, none⟩ = some (.int .i64 q3) := Y5.out.cell 3
    have fy : w5.frozen? ⟨b, 0, none⟩ = false := Y5.out.free 0
    have x0 : w5.cell? ⟨w.heap.size, 0, none⟩ = some (.int .i64 0) := X5.out.cell 0
    have x1 : w5.cell? ⟨w.heap.size, 1, none⟩ = some (.int .i64 0) := X5.out.cell 1
    have x2 : w5.cell? ⟨w.heap.size, 2, none⟩ = some (.int .i64 0) := X5.out.cell 2
    have x3 : w5.cell? ⟨w.heap.size, 3, none⟩ = some (.int .i64 0) := X5.out.cell 3
    have f0 : w5.frozen? ⟨w.heap.size, 0, none⟩ = false := X5.out.free 0
    have f1 : w5.frozen? ⟨w.heap.size, 1, none⟩ = false := X5.out.free 1
    have f2 : w5.frozen? ⟨w.heap.size, 2, none⟩ = false := X5.out.free 2
    have f3 : w5.frozen? ⟨w.heap.size, 3, none⟩ = false := X5.out.free 3
    have nb1 : ¬ w.heap.size = b := by have := S3.out; omega
    have nb2 : ¬ b = w.heap.size := by have := S3.out; omega
    have BB := Lib.hid (show Below w.heap.size w5 (w5.setCell ⟨b, 0, none⟩ (.int .i64 v)) from (Below.refl _ _).setCell (p := ⟨b, 0, none⟩) (Nat.le_of_lt S3.out) _)
    have K6 := Lib.hid (later K5.out (Nat.le_refl _) BB.out)
    have C6 := Lib.hid (cur_later C0.out K5.out C5.out (Nat.le_refl _) BB.out)
    clear hk hc K5 C5
    go_wp2_with fail
    (try simp only [Exit.inBlock, Exit.then])
    refine bodyPost_ret (v := .agg #[.int .i64 v, .int .i64 q1, .int .i64 q2, .int .i64 q3]) ?_ rfl ?_
    · rw [results_cell1 rfl]
      go_simp
    · have hbl := below_four (Below.refl w.heap.size (w5.setCell ⟨b, 0, none⟩ (.int .i64 v))) (Nat.le_refl _) (.int .i64 v) (.int .i64 q1) (.int .i64 q2) (.int .i64 q3)
      exact ⟨v, q1, q2, q3, rfl, later K6.out (Nat.le_refl _) hbl, cur_later C0.out K6.out C6.out (Nat.le_refl _) hbl⟩
  · by_cases h1 : x = 1
    · subst h1
      go_wp2_with fail
      (with_reducible refine (pickIn 0 2047 6 (by omega) (by omega) _ p a len cap C4.out #[.int .i64 0, .int .i64 1, .int .i64 6, .int .i64 31, .int .i64 1023, .int .i64 2047] rfl (by decide)).mono ?_)
      rintro e w5 ⟨v, rfl, hv0, hv1, hk, hc⟩
      have K5 := Lib.hid (K4.out.trans hk)
      have C5 := Lib.hid hc
      have X5 := Lib.hid (bx_keep X4.out hk (by have := P0.out; omega))
      have Y5 := Lib.hid (bx_keep Y4.out hk (by have := P0.out; have := S3.out; omega))
      have y0 : w5.cell? ⟨b, 0, none⟩ = some (.int .i64 q0) := Y5.out.cell 0
      have y1 : w5.cell? ⟨b, 1, none⟩ = some (.int .i64 q1) := Y5.out.cell 1
      have y2 : w5.cell? ⟨b, 2, none⟩ = some (.int .i64 q2) := Y5.out.cell 2
      have y3 : w5.cell? ⟨b, 3, none⟩ = some (.int .i64 q3) := Y5.out.cell 3
      have fy : w5.frozen? ⟨b, 1, none⟩ = false := Y5.out.free 1
      have x0 : w5.cell? ⟨w.heap.size, 0, none⟩ = some (.int .i64 0) := X5.out.cell 0
      have x1 : w5.cell? ⟨w.heap.size, 1, none⟩ = some (.int .i64 0) := X5.out.cell 1
      have x2 : w5.cell? ⟨w.heap.size, 2, none⟩ = some (.int .i64 0) := X5.out.cell 2
      have x3 : w5.cell? ⟨w.heap.size, 3, none⟩ = some (.int .i64 0) := X5.out.cell 3
      have f0 : w5.frozen? ⟨w.heap.size, 0, none⟩ = false := X5.out.free 0
      have f1 : w5.frozen? ⟨w.heap.size, 1, none⟩ = false := X5.out.free 1
      have f2 : w5.frozen? ⟨w.heap.size, 2, none⟩ = false := X5.out.free 2
      have f3 : w5.frozen? ⟨w.heap.size, 3, none⟩ = false := X5.out.free 3
      have nb1 : ¬ w.heap.size = b := by have := S3.out; omega
      have nb2 : ¬ b = w.heap.size := by have := S3.out; omega
      have BB := Lib.hid (show Below w.heap.size w5 (w5.setCell ⟨b, 1, none⟩ (.int .i64 v)) from (Below.refl _ _).setCell (p := ⟨b, 1, none⟩) (Nat.le_of_lt S3.out) _)
      have K6 := Lib.hid (later K5.out (Nat.le_refl _) BB.out)
      have C6 := Lib.hid (cur_later C0.out K5.out C5.out (Nat.le_refl _) BB.out)
      clear hk hc K5 C5
      go_wp2_with fail
      (try simp only [Exit.inBlock, Exit.then])
      refine bodyPost_ret (v := .agg #[.int .i64 q0, .int .i64 v, .int .i64 q2, .int .i64 q3]) ?_ rfl ?_
      · rw [results_cell1 rfl]
        go_simp
      · have hbl := below_four (Below.refl w.heap.size (w5.setCell ⟨b, 1, none⟩ (.int .i64 v))) (Nat.le_refl _) (.int .i64 q0) (.int .i64 v) (.int .i64 q2) (.int .i64 q3)
        exact ⟨q0, v, q2, q3, rfl, later K6.out (Nat.le_refl _) hbl, cur_later C0.out K6.out C6.out (Nat.le_refl _) hbl⟩
    · by_cases h2 : x = 2
      · subst h2
        go_wp2_with fail
        (with_reducible refine (pickIn 0 2047 6 (by omega) (by omega) _ p a len cap C4.out #[.int .i64 0, .int .i64 1, .int .i64 14, .int .i64 31, .int .i64 1023, .int .i64 2047] rfl (by decide)).mono ?_)
        rintro e w5 ⟨v, rfl, hv0, hv1, hk, hc⟩
        have K5 := Lib.hid (K4.out.trans hk)
        have C5 := Lib.hid hc
        have X5 := Lib.hid (bx_keep X4.out hk (by have := P0.out; omega))
        have Y5 := Lib.hid (bx_keep Y4.out hk (by have := P0.out; have := S3.out; omega))
        have y0 : w5.cell? ⟨b, 0, none⟩ = some (.int .i64 q0) := Y5.out.cell 0
        have y1 : w5.cell? ⟨b, 1, none⟩ = some (.int .i64 q1) := Y5.out.cell 1
        have y2 : w5.cell? ⟨b, 2, none⟩ = some (.int .i64 q2) := Y5.out.cell 2
        have y3 : w5.cell? ⟨b, 3, none⟩ = some (.int .i64 q3) := Y5.out.cell 3
        have fy : w5.frozen? ⟨b, 2, none⟩ = false := Y5.out.free 2
        have x0 : w5.cell? ⟨w.heap.size, 0, none⟩ = some (.int .i64 0) := X5.out.cell 0
        have x1 : w5.cell? ⟨w.heap.size, 1, none⟩ = some (.int .i64 0) := X5.out.cell 1
        have x2 : w5.cell? ⟨w.heap.size, 2, none⟩ = some (.int .i64 0) := X5.out.cell 2
        have x3 : w5.cell? ⟨w.heap.size, 3, none⟩ = some (.int .i64 0) := X5.out.cell 3
        have f0 : w5.frozen? ⟨w.heap.size, 0, none⟩ = false := X5.out.free 0
        have f1 : w5.frozen? ⟨w.heap.size, 1, none⟩ = false := X5.out.free 1
        have f2 : w5.frozen? ⟨w.heap.size, 2, none⟩ = false := X5.out.free 2
        have f3 : w5.frozen? ⟨w.heap.size, 3, none⟩ = false := X5.out.free 3
        have nb1 : ¬ w.heap.size = b := by have := S3.out; omega
        have nb2 : ¬ b = w.heap.size := by have := S3.out; omega
        have BB := Lib.hid (show Below w.heap.size w5 (w5.setCell ⟨b, 2, none⟩ (.int .i64 v)) from (Below.refl _ _).setCell (p := ⟨b, 2, none⟩) (Nat.le_of_lt S3.out) _)
        have K6 := Lib.hid (later K5.out (Nat.le_refl _) BB.out)
        have C6 := Lib.hid (cur_later C0.out K5.out C5.out (Nat.le_refl _) BB.out)
        clear hk hc K5 C5
        go_wp2_with fail
        (try simp only [Exit.inBlock, Exit.then])
        refine bodyPost_ret (v := .agg #[.int .i64 q0, .int .i64 q1, .int .i64 v, .int .i64 q3]) ?_ rfl ?_
        · rw [results_cell1 rfl]
          go_simp
        · have hbl := below_four (Below.refl w.heap.size (w5.setCell ⟨b, 2, none⟩ (.int .i64 v))) (Nat.le_refl _) (.int .i64 q0) (.int .i64 q1) (.int .i64 v) (.int .i64 q3)
          exact ⟨q0, q1, v, q3, rfl, later K6.out (Nat.le_refl _) hbl, cur_later C0.out K6.out C6.out (Nat.le_refl _) hbl⟩
      · by_cases h3 : x = 3
        · subst h3
          go_wp2_with fail
          (with_reducible refine (pickIn 0 1001 4 (by omega) (by omega) _ p a len cap C4.out #[.int .i64 0, .int .i64 1, .int .i64 1000, .int .i64 1001] rfl (by decide)).mono ?_)
          rintro e w5 ⟨v, rfl, hv0, hv1, hk, hc⟩
          have K5 := Lib.hid (K4.out.trans hk)
          have C5 := Lib.hid hc
          have X5 := Lib.hid (bx_keep X4.out hk (by have := P0.out; omega))
          have Y5 := Lib.hid (bx_keep Y4.out hk (by have := P0.out; have := S3.out; omega))
          have y0 : w5.cell? ⟨b, 0, none⟩ = some (.int .i64 q0) := Y5.out.cell 0
          have y1 : w5.cell? ⟨b, 1, none⟩ = some (.int .i64 q1) := Y5.out.cell 1
          have y2 : w5.cell? ⟨b, 2, none⟩ = some (.int .i64 q2) := Y5.out.cell 2
          have y3 : w5.cell? ⟨b, 3, none⟩ = some (.int .i64 q3) := Y5.out.cell 3
          have fy : w5.frozen? ⟨b, 3, none⟩ = false := Y5.out.free 3
          have x0 : w5.cell? ⟨w.heap.size, 0, none⟩ = some (.int .i64 0) := X5.out.cell 0
          have x1 : w5.cell? ⟨w.heap.size, 1, none⟩ = some (.int .i64 0) := X5.out.cell 1
          have x2 : w5.cell? ⟨w.heap.size, 2, none⟩ = some (.int .i64 0) := X5.out.cell 2
          have x3 : w5.cell? ⟨w.heap.size, 3, none⟩ = some (.int .i64 0) := X5.out.cell 3
          have f0 : w5.frozen? ⟨w.heap.size, 0, none⟩ = false := X5.out.free 0
          have f1 : w5.frozen? ⟨w.heap.size, 1, none⟩ = false := X5.out.free 1
          have f2 : w5.frozen? ⟨w.heap.size, 2, none⟩ = false := X5.out.free 2
          have f3 : w5.frozen? ⟨w.heap.size, 3, none⟩ = false := X5.out.free 3
          have nb1 : ¬ w.heap.size = b := by have := S3.out; omega
          have nb2 : ¬ b = w.heap.size := by have := S3.out; omega
          have BB := Lib.hid (show Below w.heap.size w5 (w5.setCell ⟨b, 3, none⟩ (.int .i64 v)) from (Below.refl _ _).setCell (p := ⟨b, 3, none⟩) (Nat.le_of_lt S3.out) _)
          have K6 := Lib.hid (later K5.out (Nat.le_refl _) BB.out)
          have C6 := Lib.hid (cur_later C0.out K5.out C5.out (Nat.le_refl _) BB.out)
          clear hk hc K5 C5
          go_wp2_with fail
          (try simp only [Exit.inBlock, Exit.then])
          refine bodyPost_ret (v := .agg #[.int .i64 q0, .int .i64 q1, .int .i64 q2, .int .i64 v]) ?_ rfl ?_
          · rw [results_cell1 rfl]
            go_simp
          · have hbl := below_four (Below.refl w.heap.size (w5.setCell ⟨b, 3, none⟩ (.int .i64 v))) (Nat.le_refl _) (.int .i64 q0) (.int .i64 q1) (.int .i64 q2) (.int .i64 v)
            exact ⟨q0, q1, q2, v, rfl, later K6.out (Nat.le_refl _) hbl, cur_later C0.out K6.out C6.out (Nat.le_refl _) hbl⟩
        · have y0 : w4.cell? ⟨b, 0, none⟩ = some (.int .i64 q0) := Y4.out.cell 0
          have y1 : w4.cell? ⟨b, 1, none⟩ = some (.int .i64 q1) := Y4.out.cell 1
          have y2 : w4.cell? ⟨b, 2, none⟩ = some (.int .i64 q2) := Y4.out.cell 2
          have y3 : w4.cell? ⟨b, 3, none⟩ = some (.int .i64 q3) := Y4.out.cell 3
          have x0 : w4.cell? ⟨w.heap.size, 0, none⟩ = some (.int .i64 0) := X4.out.cell 0
          have x1 : w4.cell? ⟨w.heap.size, 1, none⟩ = some (.int .i64 0) := X4.out.cell 1
          have x2 : w4.cell? ⟨w.heap.size, 2, none⟩ = some (.int .i64 0) := X4.out.cell 2
          have x3 : w4.cell? ⟨w.heap.size, 3, none⟩ = some (.int .i64 0) := X4.out.cell 3
          have f0 : w4.frozen? ⟨w.heap.size, 0, none⟩ = false := X4.out.free 0
          have f1 : w4.frozen? ⟨w.heap.size, 1, none⟩ = false := X4.out.free 1
          have f2 : w4.frozen? ⟨w.heap.size, 2, none⟩ = false := X4.out.free 2
          have f3 : w4.frozen? ⟨w.heap.size, 3, none⟩ = false := X4.out.free 3
          have e0 : (x == 0) = false := by simpa using h0
          have e1 : (x == 1) = false := by simpa using h1
          have e2 : (x == 2) = false := by simpa using h2
          have e3 : (x == 3) = false := by simpa using h3
          have nb1 : ¬ w.heap.size = b := by have := S3.out; omega
          have nb2 : ¬ b = w.heap.size := by have := S3.out; omega
          go_wp2_with fail
          (try simp only [Exit.inBlock, Exit.then])
          refine bodyPost_ret (v := .agg #[.int .i64 q0, .int .i64 q1, .int .i64 q2, .int .i64 q3]) ?_ rfl ?_
          · rw [results_cell1 rfl]
            go_simp
          · have hbl := below_four (Below.refl w.heap.size (w4)) (Nat.le_refl _) (.int .i64 q0) (.int .i64 q1) (.int .i64 q2) (.int .i64 q3)
            exact ⟨q0, q1, q2, q3, rfl, later K4.out (Nat.le_refl _) hbl, cur_later C0.out K4.out C4.out (Nat.le_refl _) hbl⟩
end Go.Proofs.YtkfkfejjhfkobaaDoor.draw
