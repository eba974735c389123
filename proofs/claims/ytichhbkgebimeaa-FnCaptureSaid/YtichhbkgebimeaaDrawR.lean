/- Draws of stage 13: the draws of the two laws. Condition: the bytes that are drawn from are a slice that came in. -/
import Derived.Test.YtichhbkgebimeaaDrawQ
namespace Go.Proofs.Ytichhbkgebimeaa.draw
open Go.RowKit sl harn bx
set_option linter.unusedVariables false

theorem results_tmp_cell {fn : Func} {p u : Tmp} {ty : TypeId} (h : fn.results = #[.tmp u, .cell p ty]) (tmps : Array Value) (P : Program) (w : World) :
    (results fn tmps).run P w =
      ((asAddr (tmps.getD p undef)).run P w).andThen fun a w₁ => ((loadVar ty a).run P w₁).andThen fun x w₂ => .ok (.tuple #[tmps.getD u undef, x]) w₂ := by
  simp only [results, h]
  simp [Sem.run_bind, Result.andThen]
theorem results_cell_tmp2 {fn : Func} {p u v : Tmp} {ty : TypeId} (h : fn.results = #[.cell p ty, .tmp u, .tmp v]) (tmps : Array Value) (P : Program) (w : World) :
    (results fn tmps).run P w =
      ((asAddr (tmps.getD p undef)).run P w).andThen fun a w₁ => ((loadVar ty a).run P w₁).andThen fun x w₂ => .ok (.tuple #[x, tmps.getD u undef, tmps.getD v undef]) w₂ := by
  simp only [results, h]
  simp [Sem.run_bind, Result.andThen]
theorem results_cell_tmp3 {fn : Func} {p u v x : Tmp} {ty : TypeId} (h : fn.results = #[.cell p ty, .tmp u, .tmp v, .tmp x]) (tmps : Array Value) (P : Program) (w : World) :
    (results fn tmps).run P w =
      ((asAddr (tmps.getD p undef)).run P w).andThen fun a w₁ => ((loadVar ty a).run P w₁).andThen fun y w₂ => .ok (.tuple #[y, tmps.getD u undef, tmps.getD v undef, tmps.getD x undef]) w₂ := by
  simp only [results, h]
  simp [Sem.run_bind, Result.andThen]
/-- A placement and the cursor behind it. -/
def OnePost (a : Option Addr) (len cap : Nat) (w : World) (e : Ending) (w' : World) : Prop :=
  ∃ (A : Option Addr) (n c : Nat) (x y : Int) (z : List Int), e = .returned (.tuple #[.pointer (some ⟨w.heap.size + 1, 0, none⟩), .agg #[.slice A n c, .int .i64 x, .int .i64 y]]) ∧ n ≤ 17 ∧ In (-1) 1001 z ∧
    Ow 3 .i64 w' (w.heap.size + 2) w'.heap.size A n c z ∧ Below w.heap.size w w' ∧ Cur w' (w.heap.size + 1) a len cap
/-- A valid placement and three stations of it. -/
def TriPost (w : World) (e : Ending) (w' : World) : Prop :=
  ∃ (A : Option Addr) (n c : Nat) (x y : Int) (z : List Int) (i j k : Int), e = .returned (.tuple #[.agg #[.slice A n c, .int .i64 x, .int .i64 y], .int .i64 i, .int .i64 j, .int .i64 k]) ∧ (1 ≤ n ∧ n ≤ 6 ∧ 10 ≤ x ∧ x ≤ 30 ∧ x ≤ y ∧ y ≤ 60) ∧ In 0 75 z ∧ ((0 ≤ i ∧ i < n) ∧ (0 ≤ j ∧ j < n) ∧ (0 ≤ k ∧ k < n)) ∧
    Ow 3 .i64 w' w.heap.size w'.heap.size A n c z ∧ Below w.heap.size w w'
/-- A placement, senders, a receiver. -/
def RcvPost (w : World) (e : Ending) (w' : World) : Prop :=
  ∃ (A : Option Addr) (n c : Nat) (x y : Int) (z : List Int) (A2 : Option Addr) (n2 c2 : Nat) (l : List Int) (q : Int), e = .returned (.tuple #[.agg #[.slice A n c, .int .i64 x, .int .i64 y], .slice A2 n2 c2, .int .i64 q]) ∧ n ≤ 17 ∧ In (-1) 1001 z ∧ n2 ≤ 3 ∧ In (-1) 6 l ∧ (0 ≤ q ∧ q ≤ 6) ∧
    Ow 3 .i64 w' w.heap.size w'.heap.size A n c z ∧ Rd .i64 w' w.heap.size w'.heap.size A2 n2 c2 l ∧ Below w.heap.size w w'

theorem code_base {w w' : World} {p : Nat} {a : Option Addr} {len : Nat} (h : Code w w.heap.size a len) (hb : Below w.heap.size w w') (hp : w.heap.size ≤ p) : Code w' p a len := by
  refine ⟨h.1, fun hl => ?_⟩
  obtain ⟨b, off, e, -, hlt, hc⟩ := h.2 hl
  refine ⟨b, off, e, by omega, Nat.lt_of_lt_of_le hlt hb.size, fun i hi => ?_⟩
  obtain ⟨z, h1, h2, h3⟩ := hc i hi
  exact ⟨z, h1, h2, by rw [hb.cell (show b < w.heap.size from hlt)]; exact h3⟩
/-- The cursor behind three stores into the result's block. -/
theorem cur_three {w0 w : World} {p : Nat} {a : Option Addr} {len cap : Nat} (h0 : Code w0 w0.heap.size a len) (hb : Below w0.heap.size w0 w) (h : Cur w p a len cap) (hp : w0.heap.size < p) (v0 v1 v2 : Value) :
    Cur (((w.setCell ⟨w0.heap.size, 0, none⟩ v0).setCell ⟨w0.heap.size, 1, none⟩ v1).setCell ⟨w0.heap.size, 2, none⟩ v2) p a len cap := by
  have hb2 := below_three hb (Nat.le_refl _) v0 v1 v2
  obtain ⟨-, j, g, hj, hblk⟩ := h
  refine ⟨code_base h0 hb2 (by omega), j, g, hj, ?_⟩
  rw [Below.heap_setCell _ _ _ _ (show p ≠ w0.heap.size by omega), Below.heap_setCell _ _ _ _ (show p ≠ w0.heap.size by omega), Below.heap_setCell _ _ _ _ (show p ≠ w0.heap.size by omega)]
  exact hblk
set_option maxRecDepth 100000 in
set_option maxHeartbeats 4000000 in
theorem onePlc (a : Option Addr) (len cap : Nat) (w : World) (hc : Code w w.heap.size a len) :
    Calls Try.prog 48 #[.slice a len cap] w (OnePost a len cap w) := by
  have C0 := Lib.hid hc
  clear hc
  go_enter Try.func48, Try.ntmps48
  go_wp2_with fail
  obtain ⟨w1, hW⟩ : ∃ w1, w.alloc (.cells #[.slice none 0 0, .int .i64 0, .int .i64 0] 26) = w1 := ⟨_, rfl⟩
  rw [hW]
  have B1 := Lib.hid (show Below w.heap.size w w1 by rw [← hW]; exact below_box _ _)
  have Z1 := Lib.hid (show Bx 26 w1 w.heap.size #[.slice none 0 0, .int .i64 0, .int .i64 0] by rw [← hW]; exact Bx.made _ _ _)
  have E1 : w1.heap.size = w.heap.size + 1 := by rw [← hW]; simp
  have D1 := Lib.hid (code_later C0.out B1.out)
  clear hW
  (with_reducible refine (new _ a len cap D1.out).mono ?_)
  rintro e w2 ⟨rfl, hk, hsz, hc⟩
  rw [E1] at hk hsz hc
  try rw [E1]
  have B2 := Lib.hid (B1.out.trans (show Below w.heap.size w1 w2 from ⟨hk.os, hk.tape, hk.output, hk.size, fun j hj => hk.block j (by omega) (by omega)⟩))
  have Z2 := Lib.hid (bx_keep Z1.out hk (by omega))
  have C2 := Lib.hid hc
  have S2 := Lib.hid (show w.heap.size + 2 ≤ w2.heap.size by omega)
  clear hk hsz hc B1 Z1 D1 E1
  go_wp2_with fail
  (with_reducible refine (anyPlc _ (w.heap.size + 1) a len cap C2.out).mono ?_)
  rintro e w3 ⟨A, n, c, x, y, z, rfl, hn, hin, ho, hk, hc⟩
  have Y3 := Lib.hid ho
  have HI := Lib.hid hin
  clear ho hin
  have B3 := Lib.hid (B2.out.trans (hk.below (by omega) (by have := C2.out.lt; omega)))
  have Z3 := Lib.hid (bx_keep Z2.out hk (by omega))
  have C3 := Lib.hid hc
  clear hk hc B2 Z2 C2 
  have z_0 : w3.cell? ⟨w.heap.size, 0, none⟩ = some (.slice none 0 0) := Z3.out.cell 0
  have z_1 : w3.cell? ⟨w.heap.size, 1, none⟩ = some (.int .i64 0) := Z3.out.cell 1
  have z_2 : w3.cell? ⟨w.heap.size, 2, none⟩ = some (.int .i64 0) := Z3.out.cell 2
  have fz0 : w3.frozen? ⟨w.heap.size, 0, none⟩ = false := Z3.out.free 0
  have fz1 : w3.frozen? ⟨w.heap.size, 1, none⟩ = false := Z3.out.free 1
  have fz2 : w3.frozen? ⟨w.heap.size, 2, none⟩ = false := Z3.out.free 2
  go_wp2_with fail
  (try simp only [Exit.inBlock, Exit.then])
  refine bodyPost_ret (v := .tuple #[.pointer (some ⟨w.heap.size + 1, 0, none⟩), .agg #[.slice A n c, .int .i64 x, .int .i64 y]]) ?_ rfl ⟨A, n, c, x, y, z, rfl, hn, HI.out, ?_, ?_, ?_⟩
  · rw [results_tmp_cell rfl]
    go_simp
  · exact ((ow_three Y3.out (by have := S2.out; omega) _ _ _).up).down (by have := S2.out; omega)
  · exact B3.out.trans (below_three (Below.refl w.heap.size w3) (Nat.le_refl _) _ _ _)
  · exact cur_three C0.out B3.out C3.out (by omega) _ _ _
set_option maxRecDepth 100000 in
set_option maxHeartbeats 4000000 in
theorem placed (a : Option Addr) (len cap : Nat) (w : World) (hc : Code w w.heap.size a len) :
    Calls Try.prog 13 #[.slice a len cap] w (TriPost w) := by
  have C0 := Lib.hid hc
  clear hc
  go_enter Try.func13, Try.ntmps13
  go_wp2_with fail
  obtain ⟨w1, hW⟩ : ∃ w1, w.alloc (.cells #[.slice none 0 0, .int .i64 0, .int .i64 0] 26) = w1 := ⟨_, rfl⟩
  rw [hW]
  have B1 := Lib.hid (show Below w.heap.size w w1 by rw [← hW]; exact below_box _ _)
  have Z1 := Lib.hid (show Bx 26 w1 w.heap.size #[.slice none 0 0, .int .i64 0, .int .i64 0] by rw [← hW]; exact Bx.made _ _ _)
  have E1 : w1.heap.size = w.heap.size + 1 := by rw [← hW]; simp
  have D1 := Lib.hid (code_later C0.out B1.out)
  clear hW
  (with_reducible refine (new _ a len cap D1.out).mono ?_)
  rintro e w2 ⟨rfl, hk, hsz, hc⟩
  rw [E1] at hk hsz hc
  try rw [E1]
  have B2 := Lib.hid (B1.out.trans (show Below w.heap.size w1 w2 from ⟨hk.os, hk.tape, hk.output, hk.size, fun j hj => hk.block j (by omega) (by omega)⟩))
  have Z2 := Lib.hid (bx_keep Z1.out hk (by omega))
  have C2 := Lib.hid hc
  have S2 := Lib.hid (show w.heap.size + 2 ≤ w2.heap.size by omega)
  clear hk hsz hc B1 Z1 D1 E1
  go_wp2_with fail
  (with_reducible refine (place _ (w.heap.size + 1) a len cap C2.out).mono ?_)
  rintro e w3 ⟨A, n, c, x, y, z, rfl, hbn, hin, ho, hk, hc⟩
  have hn1 := hbn.1
  have hn2 := hbn.2.1
  have HN := Lib.hid hbn
  have HS3 := Lib.hid hk.size
  have Y3 := Lib.hid ho
  have HI := Lib.hid hin
  clear ho hin hbn
  have B3 := Lib.hid (B2.out.trans (hk.below (by omega) (by have := C2.out.lt; omega)))
  have Z3 := Lib.hid (bx_keep Z2.out hk (by omega))
  have C3 := Lib.hid hc
  clear hk hc B2 Z2 C2 
  obtain ⟨b, hb⟩ : ∃ b, w3.heap.size = b := ⟨_, rfl⟩
  have S3 := Lib.hid (show w.heap.size + 2 ≤ b by rw [← hb]; have := S2.out; have := HS3.out; omega)
  go_wp2_with fail
  obtain ⟨w4, hW⟩ : ∃ w5, w3.alloc (.cells #[.slice A n c, .int .i64 x, .int .i64 y] 26) = w5 := ⟨_, rfl⟩
  rw [hW]
  have B4 := Lib.hid (show Below w.heap.size w w4 by rw [← hW]; exact B3.out.alloc B3.out.size _)
  have Z4 := Lib.hid (show Bx 26 w4 w.heap.size #[.slice none 0 0, .int .i64 0, .int .i64 0] by rw [← hW]; exact Z3.out.below (below_box _ _))
  have X4 := Lib.hid (show Bx 26 w4 b #[.slice A n c, .int .i64 x, .int .i64 y] by rw [← hW, ← hb]; exact Bx.made _ _ _)
  have Y4 := Lib.hid (show Ow 3 .i64 w4 w2.heap.size b A n c z by rw [← hW, ← hb]; exact Y3.out.below (below_box _ _))
  have C4 := Lib.hid (show Cur w4 (w.heap.size + 1) a len cap by rw [← hW]; exact C3.out.alloc _)
  try rw [hb]
  clear hW hb B3 Z3 Y3 C3
  have x_0 : w4.cell? ⟨b, 0, none⟩ = some (.slice A n c) := X4.out.cell 0
  have x_1 : w4.cell? ⟨b, 1, none⟩ = some (.int .i64 x) := X4.out.cell 1
  have x_2 : w4.cell? ⟨b, 2, none⟩ = some (.int .i64 y) := X4.out.cell 2
  go_wp2_with fail
  clear x_0 x_1 x_2
  (with_reducible refine (below n (by omega) _ (w.heap.size + 1) a len cap C4.out).mono ?_)
  rintro e w5 ⟨i, rfl, hi0, hi1, hk, hc⟩
  have hi2 := hi1 (by omega)
  clear hi1
  have B5 := Lib.hid (B4.out.trans (hk.below (by omega) (by have := C4.out.lt; omega)))
  have Z5 := Lib.hid (bx_keep Z4.out hk (by omega))
  have X5 := Lib.hid (bx_keep X4.out hk (by have := S3.out; omega))
  have Y5 := Lib.hid (ow_keep Y4.out hk (by have := S2.out; omega))
  have C5 := Lib.hid hc
  clear hk hc B4 Z4 C4 X4 Y4
  go_wp2_with fail
  (with_reducible refine (below n (by omega) _ (w.heap.size + 1) a len cap C5.out).mono ?_)
  rintro e w6 ⟨j, rfl, hj0, hj1, hk, hc⟩
  have hj2 := hj1 (by omega)
  clear hj1
  have B6 := Lib.hid (B5.out.trans (hk.below (by omega) (by have := C5.out.lt; omega)))
  have Z6 := Lib.hid (bx_keep Z5.out hk (by omega))
  have X6 := Lib.hid (bx_keep X5.out hk (by have := S3.out; omega))
  have Y6 := Lib.hid (ow_keep Y5.out hk (by have := S2.out; omega))
  have C6 := Lib.hid hc
  clear hk hc B5 Z5 C5 X5 Y5
  go_wp2_with fail
  have HIJ := Lib.hid (And.intro (And.intro hi0 hi2) (And.intro hj0 hj2))
  clear hi0 hi2 hj0 hj2
  have hbd : Below w6.heap.size w6 w6.drew := Below.of_drew _
  have B9 := Lib.hid (own.below_drew B6.out)
  have Z9 := Lib.hid (Z6.out.below hbd)
  have C9 := Lib.hid (show Cur w6.drew (w.heap.size + 1) a len cap from ⟨code_base C0.out B9.out (by omega), C6.out.2⟩)
  have X9 := Lib.hid (X6.out.below hbd)
  have Y9 := Lib.hid (own.ow_drew Y6.out)
  clear hbd B6 Z6 C6 X6 Y6
  go_wp2_with fail
  have c0_0 : w6.drew.cell? ⟨b, 0, none⟩ = some (.slice A n c) := X9.out.cell 0
  have c0_1 : w6.drew.cell? ⟨b, 1, none⟩ = some (.int .i64 x) := X9.out.cell 1
  have c0_2 : w6.drew.cell? ⟨b, 2, none⟩ = some (.int .i64 y) := X9.out.cell 2
  go_region_held3 (fun w' => w'.cell? ⟨b, 0, none⟩ = some (.slice A n c) ∧ w'.cell? ⟨b, 1, none⟩ = some (.int .i64 x) ∧ w'.cell? ⟨b, 2, none⟩ = some (.int .i64 y)) (first | (with_reducible exact ⟨c0_0, c0_1, c0_2⟩) | (with_reducible exact ⟨c1_0, c1_1, c1_2⟩) | exact ⟨e1_0 _ _ _, e1_1 _ _ _, e1_2 _ _ _⟩)
    (first
    | (go_at_call 41; refine (below n (by omega) _ (w.heap.size + 1) a len cap C9.out).mono ?_; rintro e wa ⟨v, rfl, hv0, hv1, hk, hc⟩; have BA := Lib.hid (B9.out.trans (hk.below (by omega) (by have := C9.out.lt; omega))); have ZA := Lib.hid (bx_keep Z9.out hk (by omega)); have XA := Lib.hid (bx_keep X9.out hk (by have := S3.out; omega)); have YA := Lib.hid (ow_keep Y9.out hk (by have := S2.out; have := S3.out; omega)); clear hk hc B9 Z9 C9 X9 Y9; have c1_0 : wa.cell? ⟨b, 0, none⟩ = some (.slice A n c) := XA.out.cell 0; have c1_1 : wa.cell? ⟨b, 1, none⟩ = some (.int .i64 x) := XA.out.cell 1; have c1_2 : wa.cell? ⟨b, 2, none⟩ = some (.int .i64 y) := XA.out.cell 2; have z1_0 : wa.cell? ⟨w.heap.size, 0, none⟩ = some (.slice none 0 0) := ZA.out.cell 0; have z1_1 : wa.cell? ⟨w.heap.size, 1, none⟩ = some (.int .i64 0) := ZA.out.cell 1; have z1_2 : wa.cell? ⟨w.heap.size, 2, none⟩ = some (.int .i64 0) := ZA.out.cell 2; have f1_0 : wa.frozen? ⟨w.heap.size, 0, none⟩ = false := ZA.out.free 0; have f1_1 : wa.frozen? ⟨w.heap.size, 1, none⟩ = false := ZA.out.free 1; have f1_2 : wa.frozen? ⟨w.heap.size, 2, none⟩ = false := ZA.out.free 2; have e1_0 : ∀ v0 v1 v2, (((wa.setCell ⟨w.heap.size, 0, none⟩ v0).setCell ⟨w.heap.size, 1, none⟩ v1).setCell ⟨w.heap.size, 2, none⟩ v2).cell? ⟨b, 0, none⟩ = some (.slice A n c) := fun v0 v1 v2 => (((XA.out.other (by have := S3.out; omega) 0 v0).other (by have := S3.out; omega) 1 v1).other (by have := S3.out; omega) 2 v2).cell 0; have e1_1 : ∀ v0 v1 v2, (((wa.setCell ⟨w.heap.size, 0, none⟩ v0).setCell ⟨w.heap.size, 1, none⟩ v1).setCell ⟨w.heap.size, 2, none⟩ v2).cell? ⟨b, 1, none⟩ = some (.int .i64 x) := fun v0 v1 v2 => (((XA.out.other (by have := S3.out; omega) 0 v0).other (by have := S3.out; omega) 1 v1).other (by have := S3.out; omega) 2 v2).cell 1; have e1_2 : ∀ v0 v1 v2, (((wa.setCell ⟨w.heap.size, 0, none⟩ v0).setCell ⟨w.heap.size, 1, none⟩ v1).setCell ⟨w.heap.size, 2, none⟩ v2).cell? ⟨b, 2, none⟩ = some (.int .i64 y) := fun v0 v1 v2 => (((XA.out.other (by have := S3.out; omega) 0 v0).other (by have := S3.out; omega) 1 v1).other (by have := S3.out; omega) 2 v2).cell 2))
  clear c0_0 c1_0 e1_0 c0_1 c1_1 e1_1 c0_2 c1_2 e1_2
  have hv2 := hv1 (by omega)
  go_wp2_with fail
  (try simp only [Exit.inBlock, Exit.then])
  refine bodyPost_ret (v := .tuple #[.agg #[.slice A n c, .int .i64 x, .int .i64 y], .int .i64 i, .int .i64 j, .int .i64 v]) ?_ rfl ⟨A, n, c, x, y, z, i, j, v, rfl, HN.out, HI.out, ⟨HIJ.out.1, HIJ.out.2, hv0, hv2⟩, ?_, ?_⟩
  · rw [results_cell_tmp3 rfl]
    go_simp
  · exact ((ow_three YA.out (by have := S2.out; omega) _ _ _).up).down (by have := S2.out; omega)
  · exact BA.out.trans (below_three (Below.refl w.heap.size wa) (Nat.le_refl _) _ _ _)
/-- The cursor behind a change that spares its block. -/
theorem cur_up {w w1 w' : World} {p : Nat} {a : Option Addr} {len cap : Nat} (h0 : Code w w.heap.size a len) (hb : Below w.heap.size w w') (h : Cur w1 p a len cap) (hblk : w'.heap[p]? = w1.heap[p]?) (hp : w.heap.size ≤ p) : Cur w' p a len cap := by
  obtain ⟨-, j, g, hj, hh⟩ := h
  exact ⟨code_base h0 hb hp, j, g, hj, hblk.trans hh⟩
set_option maxRecDepth 100000 in
set_option maxHeartbeats 4000000 in
theorem drawRcv (a : Option Addr) (len cap : Nat) (w : World) (hc : Code w w.heap.size a len) :
    Calls Try.prog 21 #[.slice a len cap] w (RcvPost w) := by
  obtain ⟨i0, hi0, hz0, hz1, hz2⟩ := info_parts intInfo
  have HZ := Lib.hid (And.intro hi0 (And.intro hz0 (And.intro hz1 hz2)))
  clear hi0 hz0 hz1 hz2
  have C0 := Lib.hid hc
  clear hc
  go_enter Try.func21, Try.ntmps21
  go_wp2_with fail
  obtain ⟨w1, hW⟩ : ∃ w1, w.alloc (.cells #[.slice none 0 0, .int .i64 0, .int .i64 0] 26) = w1 := ⟨_, rfl⟩
  rw [hW]
  have B1 := Lib.hid (show Below w.heap.size w w1 by rw [← hW]; exact below_box _ _)
  have Z1 := Lib.hid (show Bx 26 w1 w.heap.size #[.slice none 0 0, .int .i64 0, .int .i64 0] by rw [← hW]; exact Bx.made _ _ _)
  have E1 : w1.heap.size = w.heap.size + 1 := by rw [← hW]; simp
  have D1 := Lib.hid (code_later C0.out B1.out)
  clear hW
  (with_reducible refine (onePlc a len cap _ D1.out).mono ?_)
  rintro e w2 ⟨A, n, c, x, y, z, rfl, hn, hin, ho, hb, hc⟩
  rw [E1] at ho hc
  rw [E1]
  have hn17 := hn
  have HI := Lib.hid hin
  have Y2 := Lib.hid ho
  have B2 := Lib.hid (B1.out.trans (hb.mono B1.out.size))
  have Z2 := Lib.hid (Z1.out.below hb)
  have C2 := Lib.hid hc
  have S2 := Lib.hid (show w.heap.size + 3 ≤ w2.heap.size by have := hc.lt; omega)
  clear hn hin ho hb hc B1 Z1 D1 E1
  obtain ⟨b, hb⟩ : ∃ b, w2.heap.size = b := ⟨_, rfl⟩
  have S3 := Lib.hid (show w.heap.size + 3 ≤ b by rw [← hb]; exact S2.out)
  go_wp2_with fail
  obtain ⟨w4, hW⟩ : ∃ w5, (w2.alloc (.cells #[.slice A n c, .int .i64 x, .int .i64 y] 26)).alloc (.cells #[] 3) = w5 := ⟨_, rfl⟩
  rw [hW]
  have hw4 : Below w2.heap.size w2 w4 := by rw [← hW]; exact below_box2 _ _ _
  have B4 := Lib.hid (B2.out.trans (hw4.mono B2.out.size))
  have Z4 := Lib.hid (Z2.out.below hw4)
  have X4 := Lib.hid (show Bx 26 w4 b #[.slice A n c, .int .i64 x, .int .i64 y] by rw [← hW, ← hb]; exact (Bx.made _ _ _).below (below_box _ _))
  have Y4 := Lib.hid (show Ow 3 .i64 w4 (w.heap.size + 1 + 2) b A n c z by rw [← hb]; exact Y2.out.below hw4)
  have C4 := Lib.hid (show Cur w4 (w.heap.size + 1 + 1) a len cap by rw [← hW]; exact (C2.out.alloc _).alloc _)
  have V4 := Lib.hid (show Ow 3 .i64 w4 (b + 1) w4.heap.size (some ⟨b + 1, 0, none⟩) 0 0 [] by rw [← hW, ← hb]; have hh := (Ow.empty 3 .i64 (w2.alloc (.cells #[.slice A n c, .int .i64 x, .int .i64 y] 26))).up; simpa using hh)
  try rw [hb]
  clear hW hw4 B2 Z2 Y2 C2 S2
  have S2 := Lib.hid (show b + 1 ≤ w4.heap.size from by have := X4.out.lt; omega)
  (with_reducible refine (below 4 (by omega) _ (w.heap.size + 1 + 1) a len cap C4.out).mono ?_)
  rintro e w5 ⟨u, rfl, hu0, hu1, hk, hc⟩
  have hu2 := hu1 (by omega)
  have S5 := Lib.hid (Nat.le_trans S2.out hk.size)
  clear hu1
  have B5 := Lib.hid (B4.out.trans (hk.below (by omega) (by have := C4.out.lt; omega)))
  have Z5 := Lib.hid (bx_keep Z4.out hk (by omega))
  have X5 := Lib.hid (bx_keep X4.out hk (by have := S3.out; omega))
  have Y5 := Lib.hid (ow_keep Y4.out hk (by omega))
  have V5 := Lib.hid (ow_keep V4.out hk (by have := S3.out; omega))
  have C5 := Lib.hid hc
  clear hk hc B4 Z4 C4 X4 Y4 V4
  go_wp2_with fail
  obtain ⟨N, rfl⟩ := Int.eq_ofNat_of_zero_le hu0
  have hN : N ≤ 3 := by omega
  clear hu0 hu2
  go_loopw [7, 8] (fun v i wr => ∃ (k m c2 : Nat) (A2 : Option Addr) (l : List Int), v = .slice A2 m c2 ∧ i = .int .i64 k ∧ m + k = N ∧ Ow 3 .i64 wr (b + 1) wr.heap.size A2 m c2 l ∧ In (-1) 6 l ∧ Bx 26 wr w.heap.size #[.slice none 0 0, .int .i64 0, .int .i64 0] ∧ Bx 26 wr b #[.slice A n c, .int .i64 x, .int .i64 y] ∧ Ow 3 .i64 wr (w.heap.size + 1 + 2) b A n c z ∧ Below w.heap.size w wr ∧ Cur wr (w.heap.size + 1 + 1) a len cap ∧ b + 1 ≤ wr.heap.size) (fun _ i _ => (intOf i).toNat)
  case atStart => exact ⟨N, 0, 0, _, [], rfl, rfl, by omega, V5.out.up, In.nil _ _, Z5.out, X5.out, Y5.out, B5.out, C5.out, S5.out⟩
  case round =>
    clear V5 Z5 X5 Y5 B5 C5 S5
    obtain ⟨k, m, c2, A2, l, rfl, rfl, hmk, hV, hI, hZ, hX, hY, hB, hC, hS⟩ := hrel
    have V6 := Lib.hid hV
    have I6 := Lib.hid hI
    have Z6 := Lib.hid hZ
    have X6 := Lib.hid hX
    have Y6 := Lib.hid hY
    have B6 := Lib.hid hB
    have C6 := Lib.hid hC
    have S6 := Lib.hid hS
    clear hV hI hZ hX hY hB hC hS
    by_cases hk0 : 0 < k
    · obtain ⟨k, rfl⟩ : ∃ j, k = j + 1 := ⟨k - 1, by omega⟩
      have hk1 : (0 : Int) < ((k + 1 : Nat) : Int) := by omega
      have hk2 : ((k + 1 : Nat) : Int) > 0 := hk1
      have hm6 : m ≤ 3 := by omega
      go_wp2_with fail
      (with_reducible refine (below 8 (by omega) _ (w.heap.size + 1 + 1) a len cap C6.out).mono ?_)
      rintro e w7 ⟨u, rfl, hu0, hu1, hk, hc⟩
      have hu2 := hu1 (by omega)
      have S7 := Lib.hid (Nat.le_trans S6.out hk.size)
      clear hu1
      have B7 := Lib.hid (B6.out.trans (hk.below (by omega) (by have := C6.out.lt; omega)))
      have Z7 := Lib.hid (bx_keep Z6.out hk (by omega))
      have X7 := Lib.hid (bx_keep X6.out hk (by have := S3.out; omega))
      have Y7 := Lib.hid (ow_keep Y6.out hk (by omega))
      have V7 := Lib.hid (ow_keep V6.out hk (by have := S3.out; omega))
      have C7 := Lib.hid hc
      clear hk hc B6 Z6 C6 X6 Y6 V6
      have m1 : IntKind.i64.wrap (u - 1) = u - 1 := IntWalk.i64_in _ (by omega)
      have HU := Lib.hid (show -1 ≤ u - 1 ∧ u - 1 ≤ 6 by omega)
      clear hu0 hu2
      go_wp2_with (at_builtin; refine wpList_app _ rfl _ _ 24 rfl 3 i0 _ .i64 Try.underlying24 HZ.out.1 HZ.out.2.1 HZ.out.2.2.1 (by rw [HZ.out.2.2.2]; omega) rfl rfl rfl (V7.out.alloc _) (Rd.one .i64 _ _ _ (WalkArith.wf_i64 (by have := HU.out; omega))) (by omega) (by have := S7.out; simp; omega) ?_; intro A3 c3 w8 ho hb1; have V8 := Lib.hid ho; have hb8 := below_push' S7.out hb1; clear ho hb1)
      have B8 := Lib.hid (B7.out.trans (hb8.mono (by have := S3.out; omega)))
      have Z8 := Lib.hid (Z7.out.up hb8 (by have := S3.out; omega))
      have X8 := Lib.hid (X7.out.up hb8 (by omega))
      have Y8 := Lib.hid (Y7.out.same hb8.size (fun j h1 h2 => hb8.block j (by omega)))
      have C8 := Lib.hid (cur_up C0.out B8.out C7.out (hb8.block _ (by have := S3.out; omega)) (by omega))
      have S8 := Lib.hid (Nat.le_trans S7.out hb8.size)
      clear hb8 m1
      try go_wp2_with fail
      go_roundw
      all_goals first
        | (show ((k : Int)).toNat < (((k + 1 : Nat) : Int)).toNat; omega)
        | exact ⟨k, m + 1, c3, A3, l ++ [u - 1], rfl, rfl, by omega, V8.out, I6.out.push HU.out, Z8.out, X8.out, Y8.out, B8.out, C8.out, S8.out⟩
    · obtain rfl : k = 0 := by omega
      have hk1 : ¬ (0 : Int) < ((0 : Nat) : Int) := by omega
      have S2 := Lib.hid (show w.heap.size + 2 ≤ w.heap.size + 3 by omega)
      have hbd : Below wr.heap.size wr wr.drew := Below.of_drew _
      have B9 := Lib.hid (own.below_drew B6.out)
      have Z9 := Lib.hid (Z6.out.below hbd)
      have C9 := Lib.hid (show Cur wr.drew (w.heap.size + 1 + 1) a len cap from ⟨code_base C0.out B9.out (by omega), C6.out.2⟩)
      have X9 := Lib.hid (X6.out.below hbd)
      have Y9 := Lib.hid (own.ow_drew Y6.out)
      have V9 := Lib.hid (own.ow_drew V6.out)
      clear hbd B6 Z6 C6 X6 Y6 V6
      skip
      go_wp2_with fail
      have c0_0 : wr.drew.cell? ⟨b, 0, none⟩ = some (.slice A n c) := X9.out.cell 0
      have c0_1 : wr.drew.cell? ⟨b, 1, none⟩ = some (.int .i64 x) := X9.out.cell 1
      have c0_2 : wr.drew.cell? ⟨b, 2, none⟩ = some (.int .i64 y) := X9.out.cell 2
      go_region_held3 (fun w' => w'.cell? ⟨b, 0, none⟩ = some (.slice A n c) ∧ w'.cell? ⟨b, 1, none⟩ = some (.int .i64 x) ∧ w'.cell? ⟨b, 2, none⟩ = some (.int .i64 y)) (first | (with_reducible exact ⟨c0_0, c0_1, c0_2⟩) | (with_reducible exact ⟨c1_0, c1_1, c1_2⟩) | exact ⟨e1_0 _ _ _, e1_1 _ _ _, e1_2 _ _ _⟩)
        (first
        | (go_at_call 41; refine (below 7 (by omega) _ (w.heap.size + 1 + 1) a len cap C9.out).mono ?_; rintro e wa ⟨v, rfl, hv0, hv1, hk, hc⟩; have BA := Lib.hid (B9.out.trans (hk.below (by omega) (by have := C9.out.lt; omega))); have ZA := Lib.hid (bx_keep Z9.out hk (by omega)); have XA := Lib.hid (bx_keep X9.out hk (by have := S3.out; omega)); have YA := Lib.hid (ow_keep Y9.out hk (by have := S2.out; have := S3.out; omega)); have VA := Lib.hid (ow_keep V9.out hk (by have := S2.out; have := S3.out; omega)); clear hk hc B9 Z9 C9 X9 Y9 V9; have c1_0 : wa.cell? ⟨b, 0, none⟩ = some (.slice A n c) := XA.out.cell 0; have c1_1 : wa.cell? ⟨b, 1, none⟩ = some (.int .i64 x) := XA.out.cell 1; have c1_2 : wa.cell? ⟨b, 2, none⟩ = some (.int .i64 y) := XA.out.cell 2; have z1_0 : wa.cell? ⟨w.heap.size, 0, none⟩ = some (.slice none 0 0) := ZA.out.cell 0; have z1_1 : wa.cell? ⟨w.heap.size, 1, none⟩ = some (.int .i64 0) := ZA.out.cell 1; have z1_2 : wa.cell? ⟨w.heap.size, 2, none⟩ = some (.int .i64 0) := ZA.out.cell 2; have f1_0 : wa.frozen? ⟨w.heap.size, 0, none⟩ = false := ZA.out.free 0; have f1_1 : wa.frozen? ⟨w.heap.size, 1, none⟩ = false := ZA.out.free 1; have f1_2 : wa.frozen? ⟨w.heap.size, 2, none⟩ = false := ZA.out.free 2; have e1_0 : ∀ v0 v1 v2, (((wa.setCell ⟨w.heap.size, 0, none⟩ v0).setCell ⟨w.heap.size, 1, none⟩ v1).setCell ⟨w.heap.size, 2, none⟩ v2).cell? ⟨b, 0, none⟩ = some (.slice A n c) := fun v0 v1 v2 => (((XA.out.other (by have := S3.out; omega) 0 v0).other (by have := S3.out; omega) 1 v1).other (by have := S3.out; omega) 2 v2).cell 0; have e1_1 : ∀ v0 v1 v2, (((wa.setCell ⟨w.heap.size, 0, none⟩ v0).setCell ⟨w.heap.size, 1, none⟩ v1).setCell ⟨w.heap.size, 2, none⟩ v2).cell? ⟨b, 1, none⟩ = some (.int .i64 x) := fun v0 v1 v2 => (((XA.out.other (by have := S3.out; omega) 0 v0).other (by have := S3.out; omega) 1 v1).other (by have := S3.out; omega) 2 v2).cell 1; have e1_2 : ∀ v0 v1 v2, (((wa.setCell ⟨w.heap.size, 0, none⟩ v0).setCell ⟨w.heap.size, 1, none⟩ v1).setCell ⟨w.heap.size, 2, none⟩ v2).cell? ⟨b, 2, none⟩ = some (.int .i64 y) := fun v0 v1 v2 => (((XA.out.other (by have := S3.out; omega) 0 v0).other (by have := S3.out; omega) 1 v1).other (by have := S3.out; omega) 2 v2).cell 2))
      clear c0_0 c1_0 e1_0 c0_1 c1_1 e1_1 c0_2 c1_2 e1_2
      have hv2 := hv1 (by omega)
      go_wp2_with fail
      (try simp only [Exit.inBlock, Exit.then])
      refine bodyPost_ret (v := .tuple #[.agg #[.slice A n c, .int .i64 x, .int .i64 y], .slice A2 m c2, .int .i64 v]) ?_ rfl ⟨A, n, c, x, y, z, A2, m, c2, l, v, rfl, hn17, HI.out, by omega, I6.out, ⟨hv0, by omega⟩, ?_, ?_, ?_⟩
      · rw [results_cell_tmp2 rfl]
        go_simp
      · exact ((ow_three YA.out (by omega) _ _ _).up).down (by omega)
      · exact (((ow_three VA.out (by have := S3.out; omega) _ _ _).up).down (by have := S3.out; omega)).rd
      · exact BA.out.trans (below_three (Below.refl w.heap.size wa) (Nat.le_refl _) _ _ _)
end Go.Proofs.Ytichhbkgebimeaa.draw
