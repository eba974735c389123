/- Draws of stage 14: parameters, and a number of failures. Condition: the bytes that are drawn from are a slice that came in. -/
import Derived.Test.YthgobaohlcninaaDoorDrk
import Derived.Test.YthgobaohlcninaaDoorAc4
import Derived.Deep.RegionHeld3
namespace Go.Proofs.YthgobaohlcninaaDoor.draw
open Go.RowKit sl harn bx drk
set_option linter.unusedVariables false

/-- Some parameters. -/
def ParPost (p : Nat) (a : Option Addr) (len cap : Nat) (w : World) (e : Ending) (w' : World) : Prop :=
  ∃ x y z u : Int, e = .returned (.agg #[.int .i64 x, .int .i64 y, .int .i64 z, .int .i64 u]) ∧ Keep p w w' ∧ Cur w' p a len cap
/-- Some parameters and a number of failures. -/
def WaDraw (w : World) (e : Ending) (w' : World) : Prop :=
  ∃ x y z u n : Int, e = .returned (.tuple #[.agg #[.int .i64 x, .int .i64 y, .int .i64 z, .int .i64 u], .int .i64 n]) ∧ (-1 ≤ n ∧ n ≤ 21) ∧ Below w.heap.size w w'

set_option maxRecDepth 100000 in
set_option maxHeartbeats 4000000 in
theorem par (w : World) (p : Nat) (a : Option Addr) (len cap : Nat) (hc : Cur w p a len cap) :
    Calls Tryd.prog 18 #[.pointer (some ⟨p, 0, none⟩)] w (ParPost p a len cap w) := by
  have C0 := Lib.hid hc
  have P0 := Lib.hid hc.lt
  clear hc
  go_enter Tryd.func18, Tryd.ntmps18
  go_wp2_with fail
  generalize hW : w.alloc (.cells #[.int .i64 0, .int .i64 0, .int .i64 0, .int .i64 0] 25) = w1
  have K1 := Lib.hid (show Keep p w w1 by rw [← hW]; exact (Keep.refl p w).alloc _)
  have C1 := Lib.hid (show Cur w1 p a len cap by rw [← hW]; exact C0.out.alloc _)
  have X1 := Lib.hid (show Bx 25 w1 w.heap.size #[.int .i64 0, .int .i64 0, .int .i64 0, .int .i64 0] by rw [← hW]; exact Bx.made _ _ _)
  clear hW
  (with_reducible refine (below 4 (by omega) _ p a len cap C1.out).mono ?_)
  rintro e w2 ⟨k, rfl, hx0, hx1, hk, hc⟩
  have K2 := Lib.hid (K1.out.trans hk)
  have C2 := Lib.hid hc
  have X2 := Lib.hid (bx_keep X1.out hk (by have := P0.out; omega))
  clear hk hc K1 C1 X1 hx0 hx1
  go_wp2_with fail
  obtain ⟨⟨q0, q1, q2, q3⟩, hq⟩ : ∃ q, pvs k = q := ⟨_, rfl⟩
  (with_reducible refine (specPar k _).mono ?_)
  rw [hq]
  rintro e w2b ⟨rfl, hb⟩
  have K2b := Lib.hid (later K2.out K2.out.size hb)
  have C2b := Lib.hid (cur_below C2.out hb)
  have X2b := Lib.hid (X2.out.below hb)
  clear hb K2 C2 X2 hq
  obtain ⟨b, hb⟩ : ∃ b, w2b.heap.size = b := ⟨_, rfl⟩
  have S3 := Lib.hid (show w.heap.size < b by rw [← hb]; exact X2b.out.lt)
  go_wp2_with fail
  generalize hW : w2b.alloc (.cells #[.int .i64 q0, .int .i64 q1, .int .i64 q2, .int .i64 q3] 25) = w3
  have K3 := Lib.hid (show Keep p w w3 by rw [← hW]; exact K2b.out.alloc _)
  have C3 := Lib.hid (show Cur w3 p a len cap by rw [← hW]; exact C2b.out.alloc _)
  have X3 := Lib.hid (show Bx 25 w3 w.heap.size #[.int .i64 0, .int .i64 0, .int .i64 0, .int .i64 0] by rw [← hW]; exact X2b.out.below (below_box _ _))
  have Y3 := Lib.hid (show Bx 25 w3 b #[.int .i64 q0, .int .i64 q1, .int .i64 q2, .int .i64 q3] by rw [← hW, ← hb]; exact Bx.made _ _ _)
  clear hW hb K2b C2b X2b
  (with_reducible refine (below 8 (by omega) _ p a len cap C3.out).mono ?_)
  rintro e w4 ⟨x, rfl, hx0, hx1, hk, hc⟩
  have K4 := Lib.hid (K3.out.trans hk)
  have C4 := Lib.hid hc
  have X4 := Lib.hid (bx_keep X3.out hk (by have := P0.out; omega))
  have Y4 := Lib.hid (bx_keep Y3.out hk (by have := P0.out; have := S3.out; omega))
  clear hk hc hx1 K3 C3 X3 Y3
  by_cases h0 : x = 0
  · subst h0
    go_wp2_with fail
    (with_reducible refine (pickIn 0 16 4 (by omega) (by omega) _ p a len cap C4.out #[.int .i64 0, .int .i64 1, .int .i64 15, .int .i64 16] rfl (by decide)).mono ?_)
    rintro e w5 ⟨v, rfl, hv0, hv1, hk, hc⟩
    have K5 := Lib.hid (K4.out.trans hk)
    have C5 := Lib.hid hc
    have X5 := Lib.hid (bx_keep X4.out hk (by have := P0.out; omega))
    have Y5 := Lib.hid (bx_keep Y4.out hk (by have := P0.out; have := S3.out; omega))
    have y0 : w5.cell? ⟨b, 0, none⟩ = some (.int .i64 q0) := Y5.out.cell 0
    have y1 : w5.cell? ⟨b, 1, none⟩ = some (.int .i64 q1) := Y5.out.cell 1
    have y2 : w5.cell? ⟨b, 2, none⟩ = some (.int .i64 q2) := Y5.out.cell 2
    have y3 : w5.cell? ⟨b, 3, none⟩ = some (.int .i64 q3) := Y5.out.cell 3
    have fy : w5.frozen? ⟨b, 0, none⟩ = false := Y5.out.free 0
    have x0 : w5.cell? ⟨w.heap.size, 0, none⟩ = some (.int .i64 0) := X5.out.cell 0
    have x1 : w5.cell? ⟨w.heap.size, 1, none⟩ = some (.int .i64 0) := X5.out.cell 1
    have x2 : w5.cell? ⟨w.heap.size, 2, none⟩ = some (.int .i64 0) := X5.out.cell 2
    have x3 : w5.cell? ⟨w.heap.size, 3, none⟩ = some (.int .i64 0) := X5.out.cell 3
    have f0 : w5.frozen? ⟨w.heap.size, 0, none⟩ = false := X5.out.free 0
    have f1 : w5.frozen? ⟨w.heap.size, 1, none⟩ = false := X5.out.free 1
    have f2 : w5.frozen? ⟨w.heap.size, 2, none⟩ = false := X5.out.free 2
    have f3 : w5.frozen? ⟨w.heap.size, 3, none⟩ = false := X5.out.free 3
    have nb1 : ¬ w.heap.size = b := by have := S3.out; omega
    have nb2 : ¬ b = w.heap.size := by have := S3.out; omega
    have BB := Lib.hid (show Below w.heap.size w5 (w5.setCell ⟨b, 0, none⟩ (.int .i64 v)) from (Below.refl _ _).setCell (p := ⟨b, 0, none⟩) (Nat.le_of_lt S3.out) _)
    have K6 := Lib.hid (later K5.out (Nat.le_refl _) BB.out)
    have C6 := Lib.hid (cur_later C0.out K5.out C5.out (Nat.le_refl _) BB.out)
    clear hk hc K5 C5
    go_wp2_with fail
    (try simp only [Exit.inBlock, Exit.then])
    refine bodyPost_ret (v := .agg #[.int .i64 v, .int .i64 q1, .int .i64 q2, .int .i64 q3]) ?_ rfl ?_
    · rw [results_cell1 rfl]
      go_simp
    · have hbl := below_four (Below.refl w.heap.size (w5.setCell ⟨b, 0, none⟩ (.int .i64 v))) (Nat.le_refl _) (.int .i64 v) (.int .i64 q1) (.int .i64 q2) (.int .i64 q3)
      exact ⟨v, q1, q2, q3, rfl, later K6.out (Nat.le_refl _) hbl, cur_later C0.out K6.out C6.out (Nat.le_refl _) hbl⟩
  · by_cases h1 : x = 1
    · subst h1
      go_wp2_with fail
      (with_reducible refine (pickIn 0 2047 6 (by omega) (by omega) _ p a len cap C4.out #[.int .i64 0, .int .i64 1, .int .i64 6, .int .i64 31, .int .i64 1023, .int .i64 2047] rfl (by decide)).mono ?_)
      rintro e w5 ⟨v, rfl, hv0, hv1, hk, hc⟩
      have K5 := Lib.hid (K4.out.trans hk)
      have C5 := Lib.hid hc
      have X5 := Lib.hid (bx_keep X4.out hk (by have := P0.out; omega))
      have Y5 := Lib.hid (bx_keep Y4.out hk (by have := P0.out; have := S3.out; omega))
      have y0 : w5.cell? ⟨b, 0, none⟩ = some (.int .i64 q0) := Y5.out.cell 0
      have y1 : w5.cell? ⟨b, 1, none⟩ = some (.int .i64 q1) := Y5.out.cell 1
      have y2 : w5.cell? ⟨b, 2, none⟩ = some (.int .i64 q2) := Y5.out.cell 2
      have y3 : w5.cell? ⟨b, 3, none⟩ = some (.int .i64 q3) := Y5.out.cell 3
      have fy : w5.frozen? ⟨b, 1, none⟩ = false := Y5.out.free 1
      have x0 : w5.cell? ⟨w.heap.size, 0, none⟩ = some (.int .i64 0) := X5.out.cell 0
      have x1 : w5.cell? ⟨w.heap.size, 1, none⟩ = some (.int .i64 0) := X5.out.cell 1
      have x2 : w5.cell? ⟨w.heap.size, 2, none⟩ = some (.int .i64 0) := X5.out.cell 2
      have x3 : w5.cell? ⟨w.heap.size, 3, none⟩ = some (.int .i64 0) := X5.out.cell 3
      have f0 : w5.frozen? ⟨w.heap.size, 0, none⟩ = false := X5.out.free 0
      have f1 : w5.frozen? ⟨w.heap.size, 1, none⟩ = false := X5.out.free 1
      have f2 : w5.frozen? ⟨w.heap.size, 2, none⟩ = false := X5.out.free 2
      have f3 : w5.frozen? ⟨w.heap.size, 3, none⟩ = false := X5.out.free 3
      have nb1 : ¬ w.heap.size = b := by have := S3.out; omega
      have nb2 : ¬ b = w.heap.size := by have := S3.out; omega
      have BB := Lib.hid (show Below w.heap.size w5 (w5.setCell ⟨b, 1, none⟩ (.int .i64 v)) from (Below.refl _ _).setCell (p := ⟨b, 1, none⟩) (Nat.le_of_lt S3.out) _)
      have K6 := Lib.hid (later K5.out (Nat.le_refl _) BB.out)
      have C6 := Lib.hid (cur_later C0.out K5.out C5.out (Nat.le_refl _) BB.out)
      clear hk hc K5 C5
      go_wp2_with fail
      (try simp only [Exit.inBlock, Exit.then])
      refine bodyPost_ret (v := .agg #[.int .i64 q0, .int .i64 v, .int .i64 q2, .int .i64 q3]) ?_ rfl ?_
      · rw [results_cell1 rfl]
        go_simp
      · have hbl := below_four (Below.refl w.heap.size (w5.setCell ⟨b, 1, none⟩ (.int .i64 v))) (Nat.le_refl _) (.int .i64 q0) (.int .i64 v) (.int .i64 q2) (.int .i64 q3)
        exact ⟨q0, v, q2, q3, rfl, later K6.out (Nat.le_refl _) hbl, cur_later C0.out K6.out C6.out (Nat.le_refl _) hbl⟩
    · by_cases h2 : x = 2
      · subst h2
        go_wp2_with fail
        (with_reducible refine (pickIn 0 2047 6 (by omega) (by omega) _ p a len cap C4.out #[.int .i64 0, .int .i64 1, .int .i64 14, .int .i64 31, .int .i64 1023, .int .i64 2047] rfl (by decide)).mono ?_)
        rintro e w5 ⟨v, rfl, hv0, hv1, hk, hc⟩
        have K5 := Lib.hid (K4.out.trans hk)
        have C5 := Lib.hid hc
        have X5 := Lib.hid (bx_keep X4.out hk (by have := P0.out; omega))
        have Y5 := Lib.hid (bx_keep Y4.out hk (by have := P0.out; have := S3.out; omega))
        have y0 : w5.cell? ⟨b, 0, none⟩ = some (.int .i64 q0) := Y5.out.cell 0
        have y1 : w5.cell? ⟨b, 1, none⟩ = some (.int .i64 q1) := Y5.out.cell 1
        have y2 : w5.cell? ⟨b, 2, none⟩ = some (.int .i64 q2) := Y5.out.cell 2
        have y3 : w5.cell? ⟨b, 3, none⟩ = some (.int .i64 q3) := Y5.out.cell 3
        have fy : w5.frozen? ⟨b, 2, none⟩ = false := Y5.out.free 2
        have x0 : w5.cell? ⟨w.heap.size, 0, none⟩ = some (.int .i64 0) := X5.out.cell 0
        have x1 : w5.cell? ⟨w.heap.size, 1, none⟩ = some (.int .i64 0) := X5.out.cell 1
        have x2 : w5.cell? ⟨w.heap.size, 2, none⟩ = some (.int .i64 0) := X5.out.cell 2
        have x3 : w5.cell? ⟨w.heap.size, 3, none⟩ = some (.int .i64 0) := X5.out.cell 3
        have f0 : w5.frozen? ⟨w.heap.size, 0, none⟩ = false := X5.out.free 0
        have f1 : w5.frozen? ⟨w.heap.size, 1, none⟩ = false := X5.out.free 1
        have f2 : w5.frozen? ⟨w.heap.size, 2, none⟩ = false := X5.out.free 2
        have f3 : w5.frozen? ⟨w.heap.size, 3, none⟩ = false := X5.out.free 3
        have nb1 : ¬ w.heap.size = b := by have := S3.out; omega
        have nb2 : ¬ b = w.heap.size := by have := S3.out; omega
        have BB := Lib.hid (show Below w.heap.size w5 (w5.setCell ⟨b, 2, none⟩ (.int .i64 v)) from (Below.refl _ _).setCell (p := ⟨b, 2, none⟩) (Nat.le_of_lt S3.out) _)
        have K6 := Lib.hid (later K5.out (Nat.le_refl _) BB.out)
        have C6 := Lib.hid (cur_later C0.out K5.out C5.out (Nat.le_refl _) BB.out)
        clear hk hc K5 C5
        go_wp2_with fail
        (try simp only [Exit.inBlock, Exit.then])
        refine bodyPost_ret (v := .agg #[.int .i64 q0, .int .i64 q1, .int .i64 v, .int .i64 q3]) ?_ rfl ?_
        · rw [results_cell1 rfl]
          go_simp
        · have hbl := below_four (Below.refl w.heap.size (w5.setCell ⟨b, 2, none⟩ (.int .i64 v))) (Nat.le_refl _) (.int .i64 q0) (.int .i64 q1) (.int .i64 v) (.int .i64 q3)
          exact ⟨q0, q1, v, q3, rfl, later K6.out (Nat.le_refl _) hbl, cur_later C0.out K6.out C6.out (Nat.le_refl _) hbl⟩
      · by_cases h3 : x = 3
        · subst h3
          go_wp2_with fail
          (with_reducible refine (pickIn 0 1001 4 (by omega) (by omega) _ p a len cap C4.out #[.int .i64 0, .int .i64 1, .int .i64 1000, .int .i64 1001] rfl (by decide)).mono ?_)
          rintro e w5 ⟨v, rfl, hv0, hv1, hk, hc⟩
          have K5 := Lib.hid (K4.out.trans hk)
          have C5 := Lib.hid hc
          have X5 := Lib.hid (bx_keep X4.out hk (by have := P0.out; omega))
          have Y5 := Lib.hid (bx_keep Y4.out hk (by have := P0.out; have := S3.out; omega))
          have y0 : w5.cell? ⟨b, 0, none⟩ = some (.int .i64 q0) := Y5.out.cell 0
          have y1 : w5.cell? ⟨b, 1, none⟩ = some (.int .i64 q1) := Y5.out.cell 1
          have y2 : w5.cell? ⟨b, 2, none⟩ = some (.int .i64 q2) := Y5.out.cell 2
          have y3 : w5.cell? ⟨b, 3, none⟩ = some (.int .i64 q3) := Y5.out.cell 3
          have fy : w5.frozen? ⟨b, 3, none⟩ = false := Y5.out.free 3
          have x0 : w5.cell? ⟨w.heap.size, 0, none⟩ = some (.int .i64 0) := X5.out.cell 0
          have x1 : w5.cell? ⟨w.heap.size, 1, none⟩ = some (.int .i64 0) := X5.out.cell 1
          have x2 : w5.cell? ⟨w.heap.size, 2, none⟩ = some (.int .i64 0) := X5.out.cell 2
          have x3 : w5.cell? ⟨w.heap.size, 3, none⟩ = some (.int .i64 0) := X5.out.cell 3
          have f0 : w5.frozen? ⟨w.heap.size, 0, none⟩ = false := X5.out.free 0
          have f1 : w5.frozen? ⟨w.heap.size, 1, none⟩ = false := X5.out.free 1
          have f2 : w5.frozen? ⟨w.heap.size, 2, none⟩ = false := X5.out.free 2
          have f3 : w5.frozen? ⟨w.heap.size, 3, none⟩ = false := X5.out.free 3
          have nb1 : ¬ w.heap.size = b := by have := S3.out; omega
          have nb2 : ¬ b = w.heap.size := by have := S3.out; omega
          have BB := Lib.hid (show Below w.heap.size w5 (w5.setCell ⟨b, 3, none⟩ (.int .i64 v)) from (Below.refl _ _).setCell (p := ⟨b, 3, none⟩) (Nat.le_of_lt S3.out) _)
          have K6 := Lib.hid (later K5.out (Nat.le_refl _) BB.out)
          have C6 := Lib.hid (cur_later C0.out K5.out C5.out (Nat.le_refl _) BB.out)
          clear hk hc K5 C5
          go_wp2_with fail
          (try simp only [Exit.inBlock, Exit.then])
          refine bodyPost_ret (v := .agg #[.int .i64 q0, .int .i64 q1, .int .i64 q2, .int .i64 v]) ?_ rfl ?_
          · rw [results_cell1 rfl]
            go_simp
          · have hbl := below_four (Below.refl w.heap.size (w5.setCell ⟨b, 3, none⟩ (.int .i64 v))) (Nat.le_refl _) (.int .i64 q0) (.int .i64 q1) (.int .i64 q2) (.int .i64 v)
            exact ⟨q0, q1, q2, v, rfl, later K6.out (Nat.le_refl _) hbl, cur_later C0.out K6.out C6.out (Nat.le_refl _) hbl⟩
        · have y0 : w4.cell? ⟨b, 0, none⟩ = some (.int .i64 q0) := Y4.out.cell 0
          have y1 : w4.cell? ⟨b, 1, none⟩ = some (.int .i64 q1) := Y4.out.cell 1
          have y2 : w4.cell? ⟨b, 2, none⟩ = some (.int .i64 q2) := Y4.out.cell 2
          have y3 : w4.cell? ⟨b, 3, none⟩ = some (.int .i64 q3) := Y4.out.cell 3
          have x0 : w4.cell? ⟨w.heap.size, 0, none⟩ = some (.int .i64 0) := X4.out.cell 0
          have x1 : w4.cell? ⟨w.heap.size, 1, none⟩ = some (.int .i64 0) := X4.out.cell 1
          have x2 : w4.cell? ⟨w.heap.size, 2, none⟩ = some (.int .i64 0) := X4.out.cell 2
          have x3 : w4.cell? ⟨w.heap.size, 3, none⟩ = some (.int .i64 0) := X4.out.cell 3
          have f0 : w4.frozen? ⟨w.heap.size, 0, none⟩ = false := X4.out.free 0
          have f1 : w4.frozen? ⟨w.heap.size, 1, none⟩ = false := X4.out.free 1
          have f2 : w4.frozen? ⟨w.heap.size, 2, none⟩ = false := X4.out.free 2
          have f3 : w4.frozen? ⟨w.heap.size, 3, none⟩ = false := X4.out.free 3
          have e0 : (x == 0) = false := by simpa using h0
          have e1 : (x == 1) = false := by simpa using h1
          have e2 : (x == 2) = false := by simpa using h2
          have e3 : (x == 3) = false := by simpa using h3
          have nb1 : ¬ w.heap.size = b := by have := S3.out; omega
          have nb2 : ¬ b = w.heap.size := by have := S3.out; omega
          go_wp2_with fail
          (try simp only [Exit.inBlock, Exit.then])
          refine bodyPost_ret (v := .agg #[.int .i64 q0, .int .i64 q1, .int .i64 q2, .int .i64 q3]) ?_ rfl ?_
          · rw [results_cell1 rfl]
            go_simp
          · have hbl := below_four (Below.refl w.heap.size (w4)) (Nat.le_refl _) (.int .i64 q0) (.int .i64 q1) (.int .i64 q2) (.int .i64 q3)
            exact ⟨q0, q1, q2, q3, rfl, later K4.out (Nat.le_refl _) hbl, cur_later C0.out K4.out C4.out (Nat.le_refl _) hbl⟩
set_option maxRecDepth 100000 in
set_option maxHeartbeats 4000000 in
theorem drawWa (w : World) (a : Option Addr) (len cap : Nat) (hc : Code w w.heap.size a len) :
    Calls Tryd.prog 6 #[.slice a len cap] w (WaDraw w) := by
  have C0 := Lib.hid hc
  clear hc
  go_enter Tryd.func6, Tryd.ntmps6
  go_wp2_with fail
  obtain ⟨w1, hW⟩ : ∃ w1, w.alloc (.cells #[.int .i64 0, .int .i64 0, .int .i64 0, .int .i64 0] 25) = w1 := ⟨_, rfl⟩
  rw [hW]
  have B1 := Lib.hid (show Below w.heap.size w w1 by rw [← hW]; exact below_box _ _)
  have X1 := Lib.hid (show Bx 25 w1 w.heap.size #[.int .i64 0, .int .i64 0, .int .i64 0, .int .i64 0] by rw [← hW]; exact Bx.made _ _ _)
  have C1 := Lib.hid (code_later C0.out B1.out)
  have S1 := Lib.hid X1.out.lt
  clear hW
  (with_reducible refine (new _ a len cap C1.out).mono ?_)
  rintro e w2 ⟨rfl, hk, hs, hc⟩
  have K2 := Lib.hid hk
  have C2 := Lib.hid hc
  have S2 := Lib.hid hs
  have X2 := Lib.hid (bx_keep X1.out hk (by have := S1.out; omega))
  clear hk hs hc X1
  go_wp2_with fail
  (with_reducible refine (par _ w1.heap.size a len cap C2.out).mono ?_)
  rintro e w3 ⟨x, y, z, u, rfl, hk, hc⟩
  have K3 := Lib.hid (K2.out.trans hk)
  have C3 := Lib.hid hc
  have X3 := Lib.hid (bx_keep X2.out hk (by have := S1.out; omega))
  have S3 := Lib.hid (show w1.heap.size < w3.heap.size from Nat.lt_of_lt_of_le S2.out hk.size)
  clear hk hc K2 C2 X2
  obtain ⟨b, hbb⟩ : ∃ b, b = w3.heap.size := ⟨_, rfl⟩
  obtain ⟨w4, hW⟩ : ∃ w4, w4 = w3.alloc (.cells #[.int .i64 x, .int .i64 y, .int .i64 z, .int .i64 u] 25) := ⟨_, rfl⟩
  have K4 := Lib.hid (show Keep w1.heap.size w1 w4 by rw [hW]; exact K3.out.alloc _)
  have C4 := Lib.hid (show Cur w4 w1.heap.size a len cap by rw [hW]; exact C3.out.alloc _)
  have X4 := Lib.hid (show Bx 25 w4 w.heap.size #[.int .i64 0, .int .i64 0, .int .i64 0, .int .i64 0] by rw [hW]; exact X3.out.below (below_box _ _))
  have Y4 := Lib.hid (show Bx 25 w4 b #[.int .i64 x, .int .i64 y, .int .i64 z, .int .i64 u] by rw [hW, hbb]; exact Bx.made _ _ _)
  have S4 := Lib.hid (show w1.heap.size < b by rw [hbb]; exact S3.out)
  go_wp2_with fail
  rw [← hW, ← hbb]
  clear hW hbb K3 C3 X3 S3
  have C4D := Lib.hid (show Cur w4.drew w1.heap.size a len cap from C4.out)
  have K4D := Lib.hid (Keep.drew K4.out)
  have X4D := Lib.hid (show Bx 25 w4.drew w.heap.size #[.int .i64 0, .int .i64 0, .int .i64 0, .int .i64 0] from X4.out)
  have Y4D := Lib.hid (show Bx 25 w4.drew b #[.int .i64 x, .int .i64 y, .int .i64 z, .int .i64 u] from Y4.out)
  have nb1 : ¬ w.heap.size = b := by have := S1.out; have := S4.out; omega
  have nb2 : ¬ b = w.heap.size := by have := S1.out; have := S4.out; omega
  have Y5 := Lib.hid (show Bx 25 (w4.alloc (.cells #[.int .i64 (-1), .int .i64 0, .int .i64 1, .int .i64 2, .int .i64 5, .int .i64 20, .int .i64 21] 3)).drew b #[.int .i64 x, .int .i64 y, .int .i64 z, .int .i64 u] from Y4.out.below (own.below_drew (below_box w4 (.cells #[.int .i64 (-1), .int .i64 0, .int .i64 1, .int .i64 2, .int .i64 5, .int .i64 20, .int .i64 21] 3))))
  have y0 : w4.drew.cell? ⟨b, 0, none⟩ = some (.int .i64 x) := Y4D.out.cell 0
  have y1 : w4.drew.cell? ⟨b, 1, none⟩ = some (.int .i64 y) := Y4D.out.cell 1
  have y2 : w4.drew.cell? ⟨b, 2, none⟩ = some (.int .i64 z) := Y4D.out.cell 2
  have y3 : w4.drew.cell? ⟨b, 3, none⟩ = some (.int .i64 u) := Y4D.out.cell 3
  have v0 : (w4.alloc (.cells #[.int .i64 (-1), .int .i64 0, .int .i64 1, .int .i64 2, .int .i64 5, .int .i64 20, .int .i64 21] 3)).drew.cell? ⟨b, 0, none⟩ = some (.int .i64 x) := Y5.out.cell 0
  have v1 : (w4.alloc (.cells #[.int .i64 (-1), .int .i64 0, .int .i64 1, .int .i64 2, .int .i64 5, .int .i64 20, .int .i64 21] 3)).drew.cell? ⟨b, 1, none⟩ = some (.int .i64 y) := Y5.out.cell 1
  have v2 : (w4.alloc (.cells #[.int .i64 (-1), .int .i64 0, .int .i64 1, .int .i64 2, .int .i64 5, .int .i64 20, .int .i64 21] 3)).drew.cell? ⟨b, 2, none⟩ = some (.int .i64 z) := Y5.out.cell 2
  have v3 : (w4.alloc (.cells #[.int .i64 (-1), .int .i64 0, .int .i64 1, .int .i64 2, .int .i64 5, .int .i64 20, .int .i64 21] 3)).drew.cell? ⟨b, 3, none⟩ = some (.int .i64 u) := Y5.out.cell 3
  go_region_held3 (fun w' => w'.cell? ⟨b, 0, none⟩ = some (.int .i64 x) ∧ w'.cell? ⟨b, 1, none⟩ = some (.int .i64 y) ∧ w'.cell? ⟨b, 2, none⟩ = some (.int .i64 z) ∧ w'.cell? ⟨b, 3, none⟩ = some (.int .i64 u)) (first | (with_reducible exact ⟨y0, y1, y2, y3⟩) | (with_reducible exact ⟨v0, v1, v2, v3⟩) | (with_reducible exact ⟨j0, j1, j2, j3⟩) | exact ⟨(Bx.other (Bx.other (Bx.other (Bx.other Y7.out nb2 0 (.int .i64 x)) nb2 1 (.int .i64 y)) nb2 2 (.int .i64 z)) nb2 3 (.int .i64 u)).cell 0, (Bx.other (Bx.other (Bx.other (Bx.other Y7.out nb2 0 (.int .i64 x)) nb2 1 (.int .i64 y)) nb2 2 (.int .i64 z)) nb2 3 (.int .i64 u)).cell 1, (Bx.other (Bx.other (Bx.other (Bx.other Y7.out nb2 0 (.int .i64 x)) nb2 1 (.int .i64 y)) nb2 2 (.int .i64 z)) nb2 3 (.int .i64 u)).cell 2, (Bx.other (Bx.other (Bx.other (Bx.other Y7.out nb2 0 (.int .i64 x)) nb2 1 (.int .i64 y)) nb2 2 (.int .i64 z)) nb2 3 (.int .i64 u)).cell 3⟩)
    (first
    | (go_at_call 19; refine (pickIn (-1) 21 7 (by omega) (by omega) _ w1.heap.size a len cap C4D.out #[.int .i64 (-1), .int .i64 0, .int .i64 1, .int .i64 2, .int .i64 5, .int .i64 20, .int .i64 21] rfl (by decide)).mono ?_; rintro e w7 ⟨n, rfl, hn0, hn1, hk, hc⟩; have HN := Lib.hid (show -1 ≤ n ∧ n ≤ 21 from ⟨hn0, hn1⟩); have K7 := Lib.hid (K4D.out.trans hk); have X7 := Lib.hid (bx_keep X4D.out hk (by have := S1.out; omega)); have Y7 := Lib.hid (bx_keep Y4D.out hk (by have := S4.out; omega)); have j0 : w7.cell? ⟨b, 0, none⟩ = some (.int .i64 x) := Y7.out.cell 0; have j1 : w7.cell? ⟨b, 1, none⟩ = some (.int .i64 y) := Y7.out.cell 1; have j2 : w7.cell? ⟨b, 2, none⟩ = some (.int .i64 z) := Y7.out.cell 2; have j3 : w7.cell? ⟨b, 3, none⟩ = some (.int .i64 u) := Y7.out.cell 3; have x0 : w7.cell? ⟨w.heap.size, 0, none⟩ = some (.int .i64 0) := X7.out.cell 0; have x1 : w7.cell? ⟨w.heap.size, 1, none⟩ = some (.int .i64 0) := X7.out.cell 1; have x2 : w7.cell? ⟨w.heap.size, 2, none⟩ = some (.int .i64 0) := X7.out.cell 2; have x3 : w7.cell? ⟨w.heap.size, 3, none⟩ = some (.int .i64 0) := X7.out.cell 3; have f0 : w7.frozen? ⟨w.heap.size, 0, none⟩ = false := X7.out.free 0; have f1 : w7.frozen? ⟨w.heap.size, 1, none⟩ = false := X7.out.free 1; have f2 : w7.frozen? ⟨w.heap.size, 2, none⟩ = false := X7.out.free 2; have f3 : w7.frozen? ⟨w.heap.size, 3, none⟩ = false := X7.out.free 3; clear hk hc hn0 hn1))
  go_wp2_with fail
  (try simp only [Exit.inBlock, Exit.then])
  refine bodyPost_ret (v := .tuple #[.agg #[.int .i64 x, .int .i64 y, .int .i64 z, .int .i64 u], .int .i64 n]) ?_ rfl ?_
  · rw [results_cell_tmp1 rfl]
    go_simp
  · exact ⟨x, y, z, u, n, rfl, HN.out, below_four (keep_bel B1.out B1.out.size K7.out) (Nat.le_refl _) _ _ _ _⟩
end Go.Proofs.YthgobaohlcninaaDoor.draw
