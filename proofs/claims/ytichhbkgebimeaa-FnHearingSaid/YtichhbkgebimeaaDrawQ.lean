/- Draws of stage 13: any placement, and the draws of the two laws. Condition: the bytes that are drawn from are a slice that came in. -/
import Derived.Test.YtichhbkgebimeaaDrawP
namespace Go.Proofs.Ytichhbkgebimeaa.draw
open Go.RowKit sl harn bx
set_option linter.unusedVariables false

theorem In.wide {lo hi lo' hi' : Int} {z : List Int} (h : In lo hi z) (h1 : lo' ≤ lo) (h2 : hi ≤ hi') : In lo' hi' z := fun x hx => by have := h x hx; omega
theorem In.set {lo hi : Int} {z : List Int} (h : In lo hi z) (i : Nat) {v : Int} (hv : lo ≤ v ∧ v ≤ hi) : In lo hi (z.set i v) := fun x hx => by
  rcases List.mem_or_eq_of_mem_set hx with h1 | rfl
  · exact h x h1
  · exact hv
theorem In.zeros {lo hi : Int} (h : lo ≤ 0 ∧ 0 ≤ hi) (n : Nat) : In lo hi (List.replicate n 0) := fun x hx => by
  have := (List.mem_replicate.1 hx).2; omega
theorem made_int (n : Nat) : (madeCells #[Value.int .i64 0] n).toList = (List.replicate n (0 : Int)).map (Value.int .i64) := by
  apply List.ext_getElem
  · simp [size_madeCells]
  · intro j h1 h2
    have hj : j < n := by simpa [size_madeCells] using h1
    have e : (madeCells #[Value.int .i64 0] n)[j]? = some (Value.int .i64 0) := by
      rw [Array.getElem?_eq_getElem (by rw [size_madeCells]; exact hj)]
      simp [madeCells, Nat.mod_one]
    rw [Array.getElem_toList]
    have h3 := Array.getElem?_eq_some_iff.1 e
    obtain ⟨_, h4⟩ := h3
    rw [h4]; simp
theorem ow_made (E : TypeId) (w : World) (n : Nat) (hn : n ≤ 67108864) (z : Array Value) (hz : z = #[Value.int .i64 0]) : Ow E .i64 (w.alloc (.cells (madeCells z n) E)) w.heap.size (w.alloc (.cells (madeCells z n) E)).heap.size (some ⟨w.heap.size, 0, none⟩) n n (List.replicate n 0) := by
  subst hz
  exact Ow.lit w _ _ (made_int n) (fun x hx => by rw [(List.mem_replicate.1 hx).2]; rfl) (by simp [maxLen]; omega) (size_madeCells _ n)
/-- Any placement that was drawn. -/
def AnyPost (p : Nat) (a : Option Addr) (len cap : Nat) (w : World) (e : Ending) (w' : World) : Prop :=
  ∃ (A : Option Addr) (n c : Nat) (x y : Int) (z : List Int), e = .returned (.agg #[.slice A n c, .int .i64 x, .int .i64 y]) ∧ n ≤ 17 ∧ In (-1) 1001 z ∧
    Ow 3 .i64 w' w.heap.size w'.heap.size A n c z ∧ Keep p w w' ∧ Cur w' p a len cap

set_option maxRecDepth 100000 in
set_option maxHeartbeats 4000000 in
theorem anyPlc (w : World) (p : Nat) (a : Option Addr) (len cap : Nat) (hc : Cur w p a len cap) :
    Calls Try.prog 59 #[.pointer (some ⟨p, 0, none⟩)] w (AnyPost p a len cap w) := by
  obtain ⟨i0, hi0, hz0, hz1, hz2⟩ := info_parts intInfo
  have HZ := Lib.hid (And.intro hi0 (And.intro hz0 (And.intro hz1 hz2)))
  clear hi0 hz0 hz1 hz2
  have C0 := Lib.hid hc
  have P0 := Lib.hid hc.lt
  clear hc
  go_enter Try.func59, Try.ntmps59
  go_wp2_with fail
  obtain ⟨w1, hW⟩ : ∃ w1, w.alloc (.cells #[.slice none 0 0, .int .i64 0, .int .i64 0] 26) = w1 := ⟨_, rfl⟩
  rw [hW]
  have K1 := Lib.hid (show Keep p w w1 by rw [← hW]; exact (Keep.refl p w).alloc _)
  have C1 := Lib.hid (show Cur w1 p a len cap by rw [← hW]; exact C0.out.alloc _)
  have Z1 := Lib.hid (show Bx 26 w1 w.heap.size #[.slice none 0 0, .int .i64 0, .int .i64 0] by rw [← hW]; exact Bx.made _ _ _)
  have SL := Lib.hid (show w.heap.size < w1.heap.size from Z1.out.lt)
  clear hW
  (with_reducible refine (place _ p a len cap C1.out).mono ?_)
  rintro e w2 ⟨A, n, c, x, y, z, rfl, ⟨hn1, hn2, hx1, hx2, hy1, hy2⟩, hin, ho, hk, hc⟩
  have Y2 := Lib.hid ho
  have HI := Lib.hid (hin.wide (lo' := -1) (hi' := 1001) (by omega) (by omega))
  have HB := Lib.hid (show 10 ≤ x ∧ x ≤ 30 ∧ x ≤ y ∧ y ≤ 60 by omega)
  clear ho hin hx1 hx2 hy1 hy2
  have K2 := Lib.hid (K1.out.trans hk)
  have C2 := Lib.hid hc
  have Z2 := Lib.hid (bx_keep Z1.out hk (by have := P0.out; omega))
  clear hk hc K1 C1 Z1
  obtain ⟨b, hb⟩ : ∃ b, w2.heap.size = b := ⟨_, rfl⟩
  have S3 := Lib.hid (show w.heap.size < b by rw [← hb]; exact Z2.out.lt)
  go_wp2_with fail
  obtain ⟨w3, hW⟩ : ∃ w3, w2.alloc (.cells #[.slice A n c, .int .i64 x, .int .i64 y] 26) = w3 := ⟨_, rfl⟩
  rw [hW]
  have K3 := Lib.hid (show Keep p w w3 by rw [← hW]; exact K2.out.alloc _)
  have C3 := Lib.hid (show Cur w3 p a len cap by rw [← hW]; exact C2.out.alloc _)
  have Z3 := Lib.hid (show Bx 26 w3 w.heap.size #[.slice none 0 0, .int .i64 0, .int .i64 0] by rw [← hW]; exact Z2.out.below (below_box _ _))
  have X3 := Lib.hid (show Bx 26 w3 b #[.slice A n c, .int .i64 x, .int .i64 y] by rw [← hW, ← hb]; exact Bx.made _ _ _)
  have Y3 := Lib.hid (show Ow 3 .i64 w3 w1.heap.size b A n c z by rw [← hW, ← hb]; exact Y2.out.below (below_box _ _))
  try rw [hb]
  clear hW hb K2 C2 Z2 Y2
  (with_reducible refine (below 10 (by omega) _ p a len cap C3.out).mono ?_)
  rintro e w4 ⟨u, rfl, hu0, hu1, hk, hc⟩
  have hu2 := hu1 (by omega)
  have K4 := Lib.hid (K3.out.trans hk)
  have C4 := Lib.hid hc
  have Z4 := Lib.hid (bx_keep Z3.out hk (by have := P0.out; omega))
  have X4 := Lib.hid (bx_keep X3.out hk (by have := P0.out; have := S3.out; omega))
  have Y4 := Lib.hid (ow_keep Y3.out hk (by have := P0.out; have := SL.out; omega))
  clear hk hc K3 C3 Z3 X3 Y3
  have hxx : u = 0 ∨ u = 1 ∨ u = 2 ∨ u = 3 ∨ 4 ≤ u := by omega
  clear hu0 hu1 hu2
  rcases hxx with rfl | rfl | rfl | rfl | hu4
  · have hbd : Below w4.heap.size w4 w4.drew := Below.of_drew _
    obtain ⟨g, rfl, hg⟩ := own.own_some Y4.out (by omega)
    have HG := Lib.hid (Y4.out.2.2.2 g 0 rfl)
    have K5 := Lib.hid K4.out.drew
    have C5 := Lib.hid (Cur.later C0.out K4.out C4.out K4.out.size hbd)
    have Z5 := Lib.hid (Z4.out.below hbd)
    have X5 := Lib.hid (X4.out.below hbd)
    have Y5 := Lib.hid (own.ow_drew Y4.out)
    have hn0 : (0 : Int) < n := by omega
    have hn00 : 0 < n := by omega
    clear hbd K4 C4 Z4 X4 Y4
    go_wp2_with fail
    have c0_0 : w4.drew.cell? ⟨b, 0, none⟩ = some (.slice (some ⟨g, 0, none⟩) n c) := X5.out.cell 0
    have c0_1 : w4.drew.cell? ⟨b, 1, none⟩ = some (.int .i64 x) := X5.out.cell 1
    have c0_2 : w4.drew.cell? ⟨b, 2, none⟩ = some (.int .i64 y) := X5.out.cell 2
    have e0_0 : ∀ o, (w4.drew.alloc o).cell? ⟨b, 0, none⟩ = some (.slice (some ⟨g, 0, none⟩) n c) := fun o => (X5.out.below (below_box _ _)).cell 0
    have e0_1 : ∀ o, (w4.drew.alloc o).cell? ⟨b, 1, none⟩ = some (.int .i64 x) := fun o => (X5.out.below (below_box _ _)).cell 1
    have e0_2 : ∀ o, (w4.drew.alloc o).cell? ⟨b, 2, none⟩ = some (.int .i64 y) := fun o => (X5.out.below (below_box _ _)).cell 2
    go_region_held3 (fun w' => w'.cell? ⟨b, 0, none⟩ = some (.slice (some ⟨g, 0, none⟩) n c) ∧ w'.cell? ⟨b, 1, none⟩ = some (.int .i64 x) ∧ w'.cell? ⟨b, 2, none⟩ = some (.int .i64 y)) (first | (with_reducible exact ⟨c0_0, c0_1, c0_2⟩) | (with_reducible exact ⟨c1_0, c1_1, c1_2⟩) | exact ⟨e0_0 _, e0_1 _, e0_2 _⟩ | exact ⟨e1_0 _, e1_1 _, e1_2 _⟩)
      (first
      | (go_at_call 65; refine (pickIn (-1) 1001 3 (by omega) (by omega) w4.drew p a len cap C5.out #[.int .i64 (-1), .int .i64 1000, .int .i64 1001] rfl (by kernel_rfl)).mono ?_; rintro e w6 ⟨v, rfl, hv0, hv1, hk, hc⟩; have K6 := Lib.hid (K5.out.trans hk); have C6 := Lib.hid hc; have Z6 := Lib.hid (bx_keep Z5.out hk (by have := P0.out; omega)); have X6 := Lib.hid (bx_keep X5.out hk (by have := P0.out; have := S3.out; omega)); have Y6 := Lib.hid (ow_keep Y5.out hk (by have := P0.out; have := SL.out; omega)); clear hk hc K5 C5 Z5 X5 Y5; have c1_0 : w6.cell? ⟨b, 0, none⟩ = some (.slice (some ⟨g, 0, none⟩) n c) := X6.out.cell 0; have c1_1 : w6.cell? ⟨b, 1, none⟩ = some (.int .i64 x) := X6.out.cell 1; have c1_2 : w6.cell? ⟨b, 2, none⟩ = some (.int .i64 y) := X6.out.cell 2; have e1_0 : ∀ v, (w6.setCell ⟨g, 0, none⟩ v).cell? ⟨b, 0, none⟩ = some (.slice (some ⟨g, 0, none⟩) n c) := fun v => (X6.out.other (by have := HG.out; omega) 0 v).cell 0; have e1_1 : ∀ v, (w6.setCell ⟨g, 0, none⟩ v).cell? ⟨b, 1, none⟩ = some (.int .i64 x) := fun v => (X6.out.other (by have := HG.out; omega) 0 v).cell 1; have e1_2 : ∀ v, (w6.setCell ⟨g, 0, none⟩ v).cell? ⟨b, 2, none⟩ = some (.int .i64 y) := fun v => (X6.out.other (by have := HG.out; omega) 0 v).cell 2; have y0 := own.cell_of Y6.out (j := 0) (by omega); have y1 := Y6.out.free rfl 0))
    clear c0_0 c1_0 e0_0 e1_0 c0_1 c1_1 e0_1 e1_1 c0_2 c1_2 e0_2 e1_2 y0 y1
    obtain ⟨w7, hW⟩ : ∃ w7, w6.setCell ⟨g, 0, none⟩ (.int .i64 v) = w7 := ⟨_, rfl⟩
    rw [hW]
    have hbs : Below (w.heap.size + 1) w6 w7 := by rw [← hW]; exact (Below.refl _ _).setCell (p := ⟨g, 0, none⟩) (by have := SL.out; show w.heap.size + 1 ≤ g; omega) _
    have X7 := Lib.hid (show Bx 26 w7 b #[.slice (some ⟨g, 0, none⟩) n c, .int .i64 x, .int .i64 y] by rw [← hW]; exact X6.out.other (by have := HG.out; omega) _ _)
    have Z7 := Lib.hid (Z6.out.up hbs (by omega))
    have K7 := Lib.hid (K6.out.later (by omega) hbs)
    have C7 := Lib.hid (Cur.later C0.out K6.out C6.out (by omega) hbs)
    have Y7 := Lib.hid (show Ow 3 .i64 w7 w1.heap.size b (some ⟨g, 0, none⟩) n c (z.set 0 v) by rw [← hW]; exact own.ow_set Y6.out 0 v (WalkArith.wf_i64 (by omega)))
    have HV := Lib.hid (HI.out.set 0 ⟨hv0, hv1⟩)
    clear hW hbs hv0 hv1 K6 C6 Z6 X6 Y6
    have x_0 : w7.cell? ⟨b, 0, none⟩ = some (.slice (some ⟨g, 0, none⟩) n c) := X7.out.cell 0
    have x_1 : w7.cell? ⟨b, 1, none⟩ = some (.int .i64 x) := X7.out.cell 1
    have x_2 : w7.cell? ⟨b, 2, none⟩ = some (.int .i64 y) := X7.out.cell 2
    have z_0 : w7.cell? ⟨w.heap.size, 0, none⟩ = some (.slice none 0 0) := Z7.out.cell 0
    have z_1 : w7.cell? ⟨w.heap.size, 1, none⟩ = some (.int .i64 0) := Z7.out.cell 1
    have z_2 : w7.cell? ⟨w.heap.size, 2, none⟩ = some (.int .i64 0) := Z7.out.cell 2
    have fz0 : w7.frozen? ⟨w.heap.size, 0, none⟩ = false := Z7.out.free 0
    have fz1 : w7.frozen? ⟨w.heap.size, 1, none⟩ = false := Z7.out.free 1
    have fz2 : w7.frozen? ⟨w.heap.size, 2, none⟩ = false := Z7.out.free 2
    go_wp2_with fail
    (try simp only [Exit.inBlock, Exit.then])
    refine bodyPost_ret (v := .agg #[.slice (some ⟨g, 0, none⟩) n c, .int .i64 x, .int .i64 y]) ?_ rfl ⟨(some ⟨g, 0, none⟩), n, c, x, y, (z.set 0 v), rfl, (by omega), HV.out, ?_, ?_, ?_⟩
    · rw [results_cell1 rfl]
      go_simp
    · exact ((ow_three Y7.out (by have := SL.out; omega) _ _ _).up).down (by have := SL.out; omega)
    · exact K7.out.later (B := w.heap.size) (Nat.le_refl _) (below_three (Below.refl w.heap.size w7) (Nat.le_refl _) _ _ _)
    · exact Cur.later C0.out K7.out C7.out (B := w.heap.size) (Nat.le_refl _) (below_three (Below.refl w.heap.size w7) (Nat.le_refl _) _ _ _)
  · have hb0 := HB.out
    have m1 : IntKind.i64.wrap (y + 1) = y + 1 := IntWalk.i64_in _ (by omega)
    have x_0 : w4.cell? ⟨b, 0, none⟩ = some (.slice A n c) := X4.out.cell 0
    have x_1 : w4.cell? ⟨b, 1, none⟩ = some (.int .i64 x) := X4.out.cell 1
    have x_2 : w4.cell? ⟨b, 2, none⟩ = some (.int .i64 y) := X4.out.cell 2
    go_wp2_with fail
    clear x_0 x_1 x_2 m1
    (with_reducible refine (pickIn (0) 61 3 (by omega) (by omega) _ p a len cap C4.out #[.int .i64 0, .int .i64 y, .int .i64 (y + 1)] rfl (by simp [okInt]; omega)).mono ?_)
    rintro e w5 ⟨v, rfl, hv0, hv1, hk, hc⟩
    have K5 := Lib.hid (K4.out.trans hk)
    have C5 := Lib.hid hc
    have Z5 := Lib.hid (bx_keep Z4.out hk (by have := P0.out; omega))
    have X5 := Lib.hid (bx_keep X4.out hk (by have := P0.out; have := S3.out; omega))
    have Y5 := Lib.hid (ow_keep Y4.out hk (by have := P0.out; have := SL.out; omega))
    clear hk hc K4 C4 Z4 X4 Y4
    clear hb0
    have x_0 : w5.cell? ⟨b, 0, none⟩ = some (.slice A n c) := X5.out.cell 0
    have x_1 : w5.cell? ⟨b, 1, none⟩ = some (.int .i64 x) := X5.out.cell 1
    have x_2 : w5.cell? ⟨b, 2, none⟩ = some (.int .i64 y) := X5.out.cell 2
    have gx : w5.frozen? ⟨b, 1, none⟩ = false := X5.out.free 1
    have hne : w.heap.size ≠ b := by have := S3.out; omega
    have z_0 : w5.cell? ⟨w.heap.size, 0, none⟩ = some (.slice none 0 0) := Z5.out.cell 0
    have z_1 : w5.cell? ⟨w.heap.size, 1, none⟩ = some (.int .i64 0) := Z5.out.cell 1
    have z_2 : w5.cell? ⟨w.heap.size, 2, none⟩ = some (.int .i64 0) := Z5.out.cell 2
    have fz0 : w5.frozen? ⟨w.heap.size, 0, none⟩ = false := Z5.out.free 0
    have fz1 : w5.frozen? ⟨w.heap.size, 1, none⟩ = false := Z5.out.free 1
    have fz2 : w5.frozen? ⟨w.heap.size, 2, none⟩ = false := Z5.out.free 2
    have hbs : ∀ v, Below (w.heap.size + 1) w5 (w5.setCell ⟨b, 1, none⟩ v) := fun v => (Below.refl _ _).setCell (p := ⟨b, 1, none⟩) (by have := S3.out; show w.heap.size + 1 ≤ b; omega) _
    have q0 : ∀ v, (w5.setCell ⟨b, 1, none⟩ v).cell? ⟨b, 0, none⟩ = some (.slice A n c) := fun v => (X5.out.set 1 v).cell 0
    have q1 : ∀ v, (w5.setCell ⟨b, 1, none⟩ v).cell? ⟨b, 1, none⟩ = some (v) := fun v => (X5.out.set 1 v).cell 1
    have q2 : ∀ v, (w5.setCell ⟨b, 1, none⟩ v).cell? ⟨b, 2, none⟩ = some (.int .i64 y) := fun v => (X5.out.set 1 v).cell 2
    have r0 : ∀ v, (w5.setCell ⟨b, 1, none⟩ v).cell? ⟨w.heap.size, 0, none⟩ = some (.slice none 0 0) := fun v => (Z5.out.other hne 1 v).cell 0
    have r1 : ∀ v, (w5.setCell ⟨b, 1, none⟩ v).cell? ⟨w.heap.size, 1, none⟩ = some (.int .i64 0) := fun v => (Z5.out.other hne 1 v).cell 1
    have r2 : ∀ v, (w5.setCell ⟨b, 1, none⟩ v).cell? ⟨w.heap.size, 2, none⟩ = some (.int .i64 0) := fun v => (Z5.out.other hne 1 v).cell 2
    have s0 : ∀ v, (w5.setCell ⟨b, 1, none⟩ v).frozen? ⟨w.heap.size, 0, none⟩ = false := fun v => (Z5.out.other hne 1 v).free 0
    have s1 : ∀ v, (w5.setCell ⟨b, 1, none⟩ v).frozen? ⟨w.heap.size, 1, none⟩ = false := fun v => (Z5.out.other hne 1 v).free 1
    have s2 : ∀ v, (w5.setCell ⟨b, 1, none⟩ v).frozen? ⟨w.heap.size, 2, none⟩ = false := fun v => (Z5.out.other hne 1 v).free 2
    go_wp2_with fail
    (try simp only [Exit.inBlock, Exit.then])
    refine bodyPost_ret (v := .agg #[.slice A n c, .int .i64 v, .int .i64 y]) ?_ rfl ⟨A, n, c, v, y, z, rfl, (by omega), HI.out, ?_, ?_, ?_⟩
    · rw [results_cell1 rfl]
      go_simp
    · exact ((ow_three (Y5.out.same (by simp [World.setCell]) (fun j h1 h2 => Below.heap_setCell _ _ _ _ (by show j ≠ b; omega))) (by have := SL.out; omega) _ _ _).up).down (by have := SL.out; omega)
    · exact (K5.out.later (B := w.heap.size + 1) (by omega) (hbs _)).later (B := w.heap.size) (Nat.le_refl _) (below_three (Below.refl w.heap.size _) (Nat.le_refl _) _ _ _)
    · exact Cur.later C0.out (K5.out.later (B := w.heap.size + 1) (by omega) (hbs _)) (Cur.later C0.out K5.out C5.out (by omega) (hbs _)) (B := w.heap.size) (Nat.le_refl _) (below_three (Below.refl w.heap.size _) (Nat.le_refl _) _ _ _)
  · go_wp2_with fail
    (with_reducible refine (pickIn (0) 1001 3 (by omega) (by omega) _ p a len cap C4.out #[.int .i64 0, .int .i64 1000, .int .i64 1001] rfl (by kernel_rfl)).mono ?_)
    rintro e w5 ⟨v, rfl, hv0, hv1, hk, hc⟩
    have K5 := Lib.hid (K4.out.trans hk)
    have C5 := Lib.hid hc
    have Z5 := Lib.hid (bx_keep Z4.out hk (by have := P0.out; omega))
    have X5 := Lib.hid (bx_keep X4.out hk (by have := P0.out; have := S3.out; omega))
    have Y5 := Lib.hid (ow_keep Y4.out hk (by have := P0.out; have := SL.out; omega))
    clear hk hc K4 C4 Z4 X4 Y4
    have x_0 : w5.cell? ⟨b, 0, none⟩ = some (.slice A n c) := X5.out.cell 0
    have x_1 : w5.cell? ⟨b, 1, none⟩ = some (.int .i64 x) := X5.out.cell 1
    have x_2 : w5.cell? ⟨b, 2, none⟩ = some (.int .i64 y) := X5.out.cell 2
    have gx : w5.frozen? ⟨b, 2, none⟩ = false := X5.out.free 2
    have hne : w.heap.size ≠ b := by have := S3.out; omega
    have z_0 : w5.cell? ⟨w.heap.size, 0, none⟩ = some (.slice none 0 0) := Z5.out.cell 0
    have z_1 : w5.cell? ⟨w.heap.size, 1, none⟩ = some (.int .i64 0) := Z5.out.cell 1
    have z_2 : w5.cell? ⟨w.heap.size, 2, none⟩ = some (.int .i64 0) := Z5.out.cell 2
    have fz0 : w5.frozen? ⟨w.heap.size, 0, none⟩ = false := Z5.out.free 0
    have fz1 : w5.frozen? ⟨w.heap.size, 1, none⟩ = false := Z5.out.free 1
    have fz2 : w5.frozen? ⟨w.heap.size, 2, none⟩ = false := Z5.out.free 2
    have hbs : ∀ v, Below (w.heap.size + 1) w5 (w5.setCell ⟨b, 2, none⟩ v) := fun v => (Below.refl _ _).setCell (p := ⟨b, 2, none⟩) (by have := S3.out; show w.heap.size + 1 ≤ b; omega) _
    have q0 : ∀ v, (w5.setCell ⟨b, 2, none⟩ v).cell? ⟨b, 0, none⟩ = some (.slice A n c) := fun v => (X5.out.set 2 v).cell 0
    have q1 : ∀ v, (w5.setCell ⟨b, 2, none⟩ v).cell? ⟨b, 1, none⟩ = some (.int .i64 x) := fun v => (X5.out.set 2 v).cell 1
    have q2 : ∀ v, (w5.setCell ⟨b, 2, none⟩ v).cell? ⟨b, 2, none⟩ = some (v) := fun v => (X5.out.set 2 v).cell 2
    have r0 : ∀ v, (w5.setCell ⟨b, 2, none⟩ v).cell? ⟨w.heap.size, 0, none⟩ = some (.slice none 0 0) := fun v => (Z5.out.other hne 2 v).cell 0
    have r1 : ∀ v, (w5.setCell ⟨b, 2, none⟩ v).cell? ⟨w.heap.size, 1, none⟩ = some (.int .i64 0) := fun v => (Z5.out.other hne 2 v).cell 1
    have r2 : ∀ v, (w5.setCell ⟨b, 2, none⟩ v).cell? ⟨w.heap.size, 2, none⟩ = some (.int .i64 0) := fun v => (Z5.out.other hne 2 v).cell 2
    have s0 : ∀ v, (w5.setCell ⟨b, 2, none⟩ v).frozen? ⟨w.heap.size, 0, none⟩ = false := fun v => (Z5.out.other hne 2 v).free 0
    have s1 : ∀ v, (w5.setCell ⟨b, 2, none⟩ v).frozen? ⟨w.heap.size, 1, none⟩ = false := fun v => (Z5.out.other hne 2 v).free 1
    have s2 : ∀ v, (w5.setCell ⟨b, 2, none⟩ v).frozen? ⟨w.heap.size, 2, none⟩ = false := fun v => (Z5.out.other hne 2 v).free 2
    go_wp2_with fail
    (try simp only [Exit.inBlock, Exit.then])
    refine bodyPost_ret (v := .agg #[.slice A n c, .int .i64 x, .int .i64 v]) ?_ rfl ⟨A, n, c, x, v, z, rfl, (by omega), HI.out, ?_, ?_, ?_⟩
    · rw [results_cell1 rfl]
      go_simp
    · exact ((ow_three (Y5.out.same (by simp [World.setCell]) (fun j h1 h2 => Below.heap_setCell _ _ _ _ (by show j ≠ b; omega))) (by have := SL.out; omega) _ _ _).up).down (by have := SL.out; omega)
    · exact (K5.out.later (B := w.heap.size + 1) (by omega) (hbs _)).later (B := w.heap.size) (Nat.le_refl _) (below_three (Below.refl w.heap.size _) (Nat.le_refl _) _ _ _)
    · exact Cur.later C0.out (K5.out.later (B := w.heap.size + 1) (by omega) (hbs _)) (Cur.later C0.out K5.out C5.out (by omega) (hbs _)) (B := w.heap.size) (Nat.le_refl _) (below_three (Below.refl w.heap.size _) (Nat.le_refl _) _ _ _)
  · go_wp2_with fail
    (with_reducible refine (pickIn (0) 17 3 (by omega) (by omega) _ p a len cap C4.out #[.int .i64 0, .int .i64 16, .int .i64 17] rfl (by kernel_rfl)).mono ?_)
    rintro e w5 ⟨v, rfl, hv0, hv1, hk, hc⟩
    have K5 := Lib.hid (K4.out.trans hk)
    have C5 := Lib.hid hc
    have Z5 := Lib.hid (bx_keep Z4.out hk (by have := P0.out; omega))
    have X5 := Lib.hid (bx_keep X4.out hk (by have := P0.out; have := S3.out; omega))
    have Y5 := Lib.hid (ow_keep Y4.out hk (by have := P0.out; have := SL.out; omega))
    clear hk hc K4 C4 Z4 X4 Y4
    obtain ⟨k, rfl⟩ := Int.eq_ofNat_of_zero_le hv0
    have hk17 : k ≤ 17 := by omega
    have HZ1 := HZ.out
    have hmk := fun W => run_make1 (P := Try.prog) 24 3 i0 _ Try.underlying24 HZ1.1 HZ1.2.1 HZ1.2.2.1 k (by omega) (by omega) W
    have hne : w.heap.size ≠ b := by have := S3.out; omega
    have x_0 : ∀ o, (w5.alloc o).cell? ⟨b, 0, none⟩ = some (.slice A n c) := fun o => (X5.out.below (below_box _ _)).cell 0
    have x_1 : ∀ o, (w5.alloc o).cell? ⟨b, 1, none⟩ = some (.int .i64 x) := fun o => (X5.out.below (below_box _ _)).cell 1
    have x_2 : ∀ o, (w5.alloc o).cell? ⟨b, 2, none⟩ = some (.int .i64 y) := fun o => (X5.out.below (below_box _ _)).cell 2
    have gx : ∀ o, (w5.alloc o).frozen? ⟨b, 0, none⟩ = false := fun o => (X5.out.below (below_box _ _)).free 0
    have q0 : ∀ o v, ((w5.setCell ⟨b, 0, none⟩ v).alloc o).cell? ⟨b, 0, none⟩ = some (v) := fun o v => ((X5.out.set 0 v).below (below_box _ _)).cell 0
    have q1 : ∀ o v, ((w5.setCell ⟨b, 0, none⟩ v).alloc o).cell? ⟨b, 1, none⟩ = some (.int .i64 x) := fun o v => ((X5.out.set 0 v).below (below_box _ _)).cell 1
    have q2 : ∀ o v, ((w5.setCell ⟨b, 0, none⟩ v).alloc o).cell? ⟨b, 2, none⟩ = some (.int .i64 y) := fun o v => ((X5.out.set 0 v).below (below_box _ _)).cell 2
    have r0 : ∀ o v, ((w5.setCell ⟨b, 0, none⟩ v).alloc o).cell? ⟨w.heap.size, 0, none⟩ = some (.slice none 0 0) := fun o v => ((Z5.out.other hne 0 v).below (below_box _ _)).cell 0
    have r1 : ∀ o v, ((w5.setCell ⟨b, 0, none⟩ v).alloc o).cell? ⟨w.heap.size, 1, none⟩ = some (.int .i64 0) := fun o v => ((Z5.out.other hne 0 v).below (below_box _ _)).cell 1
    have r2 : ∀ o v, ((w5.setCell ⟨b, 0, none⟩ v).alloc o).cell? ⟨w.heap.size, 2, none⟩ = some (.int .i64 0) := fun o v => ((Z5.out.other hne 0 v).below (below_box _ _)).cell 2
    have s0 : ∀ o v, ((w5.setCell ⟨b, 0, none⟩ v).alloc o).frozen? ⟨w.heap.size, 0, none⟩ = false := fun o v => ((Z5.out.other hne 0 v).below (below_box _ _)).free 0
    have s1 : ∀ o v, ((w5.setCell ⟨b, 0, none⟩ v).alloc o).frozen? ⟨w.heap.size, 1, none⟩ = false := fun o v => ((Z5.out.other hne 0 v).below (below_box _ _)).free 1
    have s2 : ∀ o v, ((w5.setCell ⟨b, 0, none⟩ v).alloc o).frozen? ⟨w.heap.size, 2, none⟩ = false := fun o v => ((Z5.out.other hne 0 v).below (below_box _ _)).free 2
    have hsz : ∀ v, (w5.setCell ⟨b, 0, none⟩ v).heap.size = w5.heap.size := fun v => by simp [World.setCell]
    have hbs : ∀ o v, Below (w.heap.size + 1) w5 ((w5.setCell ⟨b, 0, none⟩ v).alloc o) := fun o v => ((Below.refl _ _).setCell (p := ⟨b, 0, none⟩) (by have := S3.out; show w.heap.size + 1 ≤ b; omega) _).alloc (by rw [hsz]; have := S3.out; have := X5.out.lt; omega) _
    have hlt5 := X5.out.lt
    have hYm : ∀ v, Ow 3 .i64 ((w5.setCell ⟨b, 0, none⟩ v).alloc (.cells (madeCells #[.int .i64 0] k) 3)) w5.heap.size ((w5.setCell ⟨b, 0, none⟩ v).alloc (.cells (madeCells #[.int .i64 0] k) 3)).heap.size (some ⟨w5.heap.size, 0, none⟩) k k (List.replicate k 0) := fun v => by have hh := ow_made 3 (w5.setCell ⟨b, 0, none⟩ v) k (by omega) _ rfl; rw [hsz] at hh; exact hh
    go_wp2_with fail
    (try simp only [Exit.inBlock, Exit.then])
    refine bodyPost_ret (v := .agg #[.slice (some ⟨w5.heap.size, 0, none⟩) k k, .int .i64 x, .int .i64 y]) ?_ rfl ⟨some ⟨w5.heap.size, 0, none⟩, k, k, x, y, List.replicate k 0, rfl, (by omega), In.zeros (by omega) k, ?_, ?_, ?_⟩
    · rw [results_cell1 rfl]
      go_simp
    · exact ((ow_three (hYm _) (by have := S3.out; omega) _ _ _).up).down (by have := S3.out; omega)
    · exact (K5.out.later (B := w.heap.size + 1) (by omega) (hbs _ _)).later (B := w.heap.size) (Nat.le_refl _) (below_three (Below.refl w.heap.size _) (Nat.le_refl _) _ _ _)
    · exact Cur.later C0.out (K5.out.later (B := w.heap.size + 1) (by omega) (hbs _ _)) (Cur.later C0.out K5.out C5.out (by omega) (hbs _ _)) (B := w.heap.size) (Nat.le_refl _) (below_three (Below.refl w.heap.size _) (Nat.le_refl _) _ _ _)
  · have h40 : (u == 0) = false := by simp; omega
    have h41 : (u == 1) = false := by simp; omega
    have h42 : (u == 2) = false := by simp; omega
    have h43 : (u == 3) = false := by simp; omega
    have x_0 : w4.cell? ⟨b, 0, none⟩ = some (.slice A n c) := X4.out.cell 0
    have x_1 : w4.cell? ⟨b, 1, none⟩ = some (.int .i64 x) := X4.out.cell 1
    have x_2 : w4.cell? ⟨b, 2, none⟩ = some (.int .i64 y) := X4.out.cell 2
    have z_0 : w4.cell? ⟨w.heap.size, 0, none⟩ = some (.slice none 0 0) := Z4.out.cell 0
    have z_1 : w4.cell? ⟨w.heap.size, 1, none⟩ = some (.int .i64 0) := Z4.out.cell 1
    have z_2 : w4.cell? ⟨w.heap.size, 2, none⟩ = some (.int .i64 0) := Z4.out.cell 2
    have fz0 : w4.frozen? ⟨w.heap.size, 0, none⟩ = false := Z4.out.free 0
    have fz1 : w4.frozen? ⟨w.heap.size, 1, none⟩ = false := Z4.out.free 1
    have fz2 : w4.frozen? ⟨w.heap.size, 2, none⟩ = false := Z4.out.free 2
    go_wp2_with fail
    (try simp only [Exit.inBlock, Exit.then])
    refine bodyPost_ret (v := .agg #[.slice A n c, .int .i64 x, .int .i64 y]) ?_ rfl ⟨A, n, c, x, y, z, rfl, (by omega), HI.out, ?_, ?_, ?_⟩
    · rw [results_cell1 rfl]
      go_simp
    · exact ((ow_three Y4.out (by have := SL.out; omega) _ _ _).up).down (by have := SL.out; omega)
    · exact K4.out.later (B := w.heap.size) (Nat.le_refl _) (below_three (Below.refl w.heap.size w4) (Nat.le_refl _) _ _ _)
    · exact Cur.later C0.out K4.out C4.out (B := w.heap.size) (Nat.le_refl _) (below_three (Below.refl w.heap.size w4) (Nat.le_refl _) _ _ _)
end Go.Proofs.Ytichhbkgebimeaa.draw
