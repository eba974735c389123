/- Draws of stage 13: a placement. Condition: the bytes that are drawn from are a slice that came in. -/
import Derived.Test.YtichhbkgebimeaaBox
import Derived.Test.YtichhbkgebimeaaPlh
import Derived.Test.YtichhbkgebimeaaDraw2
import Derived.Test.YtichhbkgebimeaaDrawB
import Derived.Test.YtichhbkgebimeaaStp
import Derived.Deep.RegionHeld3
import Derived.Deep.RegionLaw
namespace Go.Proofs.Ytichhbkgebimeaa.draw
open Go.RowKit sl harn bx
set_option linter.unusedVariables false

theorem bx_keep {T : TypeId} {w w' : World} {p b : Nat} {cs : Array Value} (h : Bx T w b cs) (k : Keep p w w') (hn : b ≠ p) : Bx T w' b cs := h.same (k.block b h.lt hn)
theorem Keep.later {p : Nat} {w w1 w2 : World} (h : Keep p w w1) {B : Nat} (hB : w.heap.size ≤ B) (hb : Below B w1 w2) : Keep p w w2 :=
  ⟨hb.os.trans h.os, hb.tape.trans h.tape, hb.output.trans h.output, Nat.le_trans h.size hb.size, fun j hj hn => (hb.block j (by omega)).trans (h.block j hj hn)⟩
/-- The cursor behind a change above it. -/
theorem Cur.later {w w1 w2 : World} {p B : Nat} {a : Option Addr} {len cap : Nat} (h0 : Cur w p a len cap) (hk : Keep p w w1) (h : Cur w1 p a len cap) (hB : w.heap.size ≤ B) (hb : Below B w1 w2) : Cur w2 p a len cap := by
  have k2 := hk.later hB hb
  have hp := h0.lt
  obtain ⟨-, i, g, hi, hblk⟩ := h
  exact ⟨h0.1.keep k2, i, g, hi, (hb.block p (by omega)).trans hblk⟩
theorem Below.of_drew (w : World) : Below w.heap.size w w.drew := own.below_drew (Below.refl _ _)
/-- All within these bounds. -/
def In (lo hi : Int) (z : List Int) : Prop := ∀ x ∈ z, lo ≤ x ∧ x ≤ hi
theorem In.nil (lo hi : Int) : In lo hi [] := fun x h => by cases h
theorem In.push {lo hi : Int} {z : List Int} (h : In lo hi z) {x : Int} (hx : lo ≤ x ∧ x ≤ hi) : In lo hi (z ++ [x]) := fun y hy => by
  rcases List.mem_append.1 hy with hy | hy
  · exact h y hy
  · simp at hy; subst hy; exact hx
/-- A placement that was drawn. -/
def PlcPost (p : Nat) (a : Option Addr) (len cap : Nat) (w : World) (e : Ending) (w' : World) : Prop :=
  ∃ (A : Option Addr) (n c : Nat) (x y : Int) (z : List Int), e = .returned (.agg #[.slice A n c, .int .i64 x, .int .i64 y]) ∧ (1 ≤ n ∧ n ≤ 6 ∧ 10 ≤ x ∧ x ≤ 30 ∧ x ≤ y ∧ y ≤ 60) ∧ In 0 75 z ∧
    Ow 3 .i64 w' w.heap.size w'.heap.size A n c z ∧ Keep p w w' ∧ Cur w' p a len cap

set_option maxRecDepth 100000 in
set_option maxHeartbeats 4000000 in
theorem place (w : World) (p : Nat) (a : Option Addr) (len cap : Nat) (hc : Cur w p a len cap) :
    Calls Try.prog 40 #[.pointer (some ⟨p, 0, none⟩)] w (PlcPost p a len cap w) := by
  obtain ⟨i0, hi0, hz0, hz1, hz2⟩ := info_parts intInfo
  have HZ := Lib.hid (And.intro hi0 (And.intro hz0 (And.intro hz1 hz2)))
  clear hi0 hz0 hz1 hz2
  have C0 := Lib.hid hc
  have P0 := Lib.hid hc.lt
  clear hc
  go_enter Try.func40, Try.ntmps40
  go_wp2_with fail
  obtain ⟨w1, hW⟩ : ∃ w1, w.alloc (.cells #[.slice none 0 0, .int .i64 0, .int .i64 0] 26) = w1 := ⟨_, rfl⟩
  rw [hW]
  have K1 := Lib.hid (show Keep p w w1 by rw [← hW]; exact (Keep.refl p w).alloc _)
  have C1 := Lib.hid (show Cur w1 p a len cap by rw [← hW]; exact C0.out.alloc _)
  have Z1 := Lib.hid (show Bx 26 w1 w.heap.size #[.slice none 0 0, .int .i64 0, .int .i64 0] by rw [← hW]; exact Bx.made _ _ _)
  clear hW
  (with_reducible refine (below 3 (by omega) _ p a len cap C1.out).mono ?_)
  rintro e w2 ⟨u, rfl, hu0, hu1, hk, hc⟩
  have hu2 := hu1 (by omega)
  have K2 := Lib.hid (K1.out.trans hk)
  have C2 := Lib.hid hc
  have Z2 := Lib.hid (bx_keep Z1.out hk (by have := P0.out; omega))
  clear hk hc K1 C1 Z1
  have m1 : IntKind.i64.wrap (10 * u) = 10 * u := IntWalk.i64_in _ (by omega)
  have m2 : IntKind.i64.wrap (10 + 10 * u) = 10 + 10 * u := IntWalk.i64_in _ (by omega)
  obtain ⟨b, hb⟩ : ∃ b, w2.heap.size = b := ⟨_, rfl⟩
  have S3 := Lib.hid (show w.heap.size < b by rw [← hb]; exact Z2.out.lt)
  go_wp2_with fail
  clear m1 m2
  obtain ⟨x, hx⟩ : ∃ x, 10 + 10 * u = x := ⟨_, rfl⟩
  have HX := Lib.hid (show 10 ≤ x ∧ x ≤ 30 by omega)
  rw [hx]
  obtain ⟨w3, hW⟩ : ∃ w3, w2.alloc (.cells #[.slice none 0 0, .int .i64 x, .int .i64 0] 26) = w3 := ⟨_, rfl⟩
  rw [hW]
  have hbd : Below w3.heap.size w3 w3.drew := Below.of_drew _
  have K3 := Lib.hid (show Keep p w w3.drew by rw [← hW]; exact (K2.out.alloc _).drew)
  have C3 := Lib.hid (show Cur w3.drew p a len cap by rw [← hW]; exact C2.out.alloc _)
  have Z3 := Lib.hid ((show Bx 26 w3 w.heap.size #[.slice none 0 0, .int .i64 0, .int .i64 0] by rw [← hW]; exact Z2.out.below (below_box _ _)).below hbd)
  have X3 := Lib.hid ((show Bx 26 w3 b #[.slice none 0 0, .int .i64 x, .int .i64 0] by rw [← hW, ← hb]; exact Bx.made _ _ _).below hbd)
  try rw [hb]
  clear hx hu0 hu1 hu2 hW hb hbd K2 C2 Z2
  have c0_0 : w3.drew.cell? ⟨b, 0, none⟩ = some (.slice none 0 0) := X3.out.cell 0
  have c0_1 : w3.drew.cell? ⟨b, 1, none⟩ = some (.int .i64 x) := X3.out.cell 1
  go_region_held3 (fun w' => w'.cell? ⟨b, 0, none⟩ = some (.slice none 0 0) ∧ w'.cell? ⟨b, 1, none⟩ = some (.int .i64 x)) (first | (with_reducible exact ⟨c0_0, c0_1⟩) | (with_reducible exact ⟨c1_0, c1_1⟩) | exact ⟨e0 _, e1 _⟩)
    (first
    | (go_at_call 41; refine (below 4 (by omega) _ p a len cap C3.out).mono ?_; rintro e w4 ⟨v, rfl, hv0, hv1, hk, hc⟩; have hv2 := hv1 (by omega); have m1 : IntKind.i64.wrap (10 * v) = 10 * v := IntWalk.i64_in _ (by omega); have hxx := HX.out; have m2 : IntKind.i64.wrap (x + 10 * v) = x + 10 * v := IntWalk.i64_in _ (by omega); have K4 := Lib.hid (K3.out.trans hk); have C4 := Lib.hid hc; have Z4 := Lib.hid (bx_keep Z3.out hk (by have := P0.out; omega)); have X4 := Lib.hid (bx_keep X3.out hk (by have := P0.out; have := S3.out; omega)); clear hk hc K3 C3 Z3 X3; have c1_0 : w4.cell? ⟨b, 0, none⟩ = some (.slice none 0 0) := X4.out.cell 0; have c1_1 : w4.cell? ⟨b, 1, none⟩ = some (.int .i64 x) := X4.out.cell 1; have c1_2 : w4.cell? ⟨b, 2, none⟩ = some (.int .i64 0) := X4.out.cell 2; have g2 : w4.frozen? ⟨b, 2, none⟩ = false := X4.out.free 2; have e0 : ∀ v, (w4.setCell ⟨b, 2, none⟩ v).cell? ⟨b, 0, none⟩ = some (.slice none 0 0) := fun v => (X4.out.set 2 v).cell 0; have e1 : ∀ v, (w4.setCell ⟨b, 2, none⟩ v).cell? ⟨b, 1, none⟩ = some (.int .i64 x) := fun v => (X4.out.set 2 v).cell 1))
  obtain ⟨y, hy⟩ : ∃ y, x + 10 * v = y := ⟨_, rfl⟩
  have HY := Lib.hid (show x ≤ y ∧ y ≤ 60 by omega)
  rw [hy]
  obtain ⟨w5, hW⟩ : ∃ w5, w4.setCell ⟨b, 2, none⟩ (.int .i64 y) = w5 := ⟨_, rfl⟩
  rw [hW]
  have X5 := Lib.hid (show Bx 26 w5 b #[.slice none 0 0, .int .i64 x, .int .i64 y] by rw [← hW]; exact X4.out.set 2 _)
  have Z5 := Lib.hid (show Bx 26 w5 w.heap.size #[.slice none 0 0, .int .i64 0, .int .i64 0] by rw [← hW]; exact Z4.out.other (by have := S3.out; omega) _ _)
  have hbs : Below (w.heap.size + 1) w4 w5 := by rw [← hW]; exact (Below.refl _ _).setCell (p := ⟨b, 2, none⟩) (by have := S3.out; show w.heap.size + 1 ≤ b; omega) _
  have K5 := Lib.hid (K4.out.later (by omega) hbs)
  have C5 := Lib.hid (Cur.later C0.out K4.out C4.out (by omega) hbs)
  clear e0 e1 hbs hW hy hv0 hv1 hv2 m1 m2 hxx c0_0 c0_1 c1_0 c1_1 c1_2 g2 K4 C4 Z4 X4
  go_wp2_with fail
  (with_reducible refine (below 6 (by omega) _ p a len cap C5.out).mono ?_)
  rintro e w6 ⟨u, rfl, hu0, hu1, hk, hc⟩
  have hu2 := hu1 (by omega)
  have K6 := Lib.hid (K5.out.trans hk)
  have C6 := Lib.hid hc
  have Z6 := Lib.hid (bx_keep Z5.out hk (by have := P0.out; omega))
  have X6 := Lib.hid (bx_keep X5.out hk (by have := P0.out; have := S3.out; omega))
  clear hk hc K5 C5 Z5 X5
  have m1 : IntKind.i64.wrap (1 + u) = 1 + u := IntWalk.i64_in _ (by omega)
  go_wp2_with fail
  clear m1
  obtain ⟨N, hN⟩ : ∃ N : Nat, 1 + u = (N : Int) := ⟨(1 + u).toNat, by omega⟩
  have HN := Lib.hid (show 1 ≤ N ∧ N ≤ 6 by omega)
  rw [hN]
  clear hN hu0 hu1 hu2
  have SB := Lib.hid (show b < w6.heap.size from X6.out.lt)
  go_loopw [4] (fun i wr => ∃ (k m c : Nat) (A : Option Addr) (z : List Int), i = .int .i64 k ∧ m + k = N ∧ Bx 26 wr b #[.slice A m c, .int .i64 x, .int .i64 y] ∧ Ow 3 .i64 wr w6.heap.size wr.heap.size A m c z ∧ In 0 75 z ∧ Bx 26 wr w.heap.size #[.slice none 0 0, .int .i64 0, .int .i64 0] ∧ Keep p w wr ∧ Cur wr p a len cap ∧ w6.heap.size ≤ wr.heap.size) (fun i _ => (intOf i).toNat)
  case atStart => exact ⟨N, 0, 0, none, [], rfl, by omega, X6.out, ow_none _ _ _ _ _ (Nat.le_refl _), In.nil _ _, Z6.out, K6.out, C6.out, Nat.le_refl _⟩
  case round =>
    obtain ⟨k, m, c, A, z, rfl, hmk, hX, hO, hI, hZ, hK, hC, hsz⟩ := hrel
    have hbd : Below wr.heap.size wr wr.drew := Below.of_drew _
    by_cases hk0 : 0 < k
    · obtain ⟨k, rfl⟩ : ∃ j, k = j + 1 := ⟨k - 1, by omega⟩
      have hk1 : (0 : Int) < ((k + 1 : Nat) : Int) := by omega
      have hk2 : ((k + 1 : Nat) : Int) > 0 := hk1
      have hm6 : m ≤ 5 := by have := HN.out; omega
      have X7 := Lib.hid (hX.below hbd)
      have O7 := Lib.hid (own.ow_drew hO)
      have I7 := Lib.hid hI
      have Z7 := Lib.hid (hZ.below hbd)
      have K7 := Lib.hid hK.drew
      have C7 := Lib.hid (Cur.later C0.out hK hC (Nat.le_trans K6.out.size hsz) hbd)
      have S7 := Lib.hid (show w6.heap.size ≤ wr.drew.heap.size from hsz)
      clear hX hO hI hZ hK hC hsz hbd
      have c0_0 : wr.drew.cell? ⟨b, 0, none⟩ = some (.slice A m c) := X7.out.cell 0
      go_wp2_with fail
      go_region_law (first
        | (refine stp.step_app rfl _ _ 24 rfl 3 i0 _ .i64 Try.underlying24 HZ.out.1 HZ.out.2.1 HZ.out.2.2.1 (by rw [HZ.out.2.2.2]; omega) rfl rfl rfl (O8.out.alloc _) (Rd.one .i64 _ _ _ (WalkArith.wf_i64 (by have := HV.out; omega))) (by omega) (by have := S8.out; simp; omega) ?_; intro A2 c2 w9 ho hb; have O9 := Lib.hid ho; have hb9 : Below w6.heap.size w8 w9 := below_push' S8.out hb; have X9 := Lib.hid (X8.out.up hb9 SB.out); have Z9 := Lib.hid (Z8.out.up hb9 (by have := S3.out; have := SB.out; omega)); have K9 := Lib.hid (K8.out.later K6.out.size hb9); have C9 := Lib.hid (Cur.later C0.out K8.out C8.out K6.out.size hb9); have S9 := Lib.hid (Nat.le_trans S8.out hb9.size); clear ho hb hb9; have d0 : w9.cell? ⟨b, 0, none⟩ = some (.slice A m c) := X9.out.cell 0; have g0 : w9.frozen? ⟨b, 0, none⟩ = false := X9.out.free 0)
        | (go_simp; go_at_call 41; refine (below 16 (by omega) _ p a len cap C7.out).mono ?_; rintro e w8 ⟨v, rfl, hv0, hv1, hk, hc⟩; have hv2 := hv1 (by omega); have m1 : IntKind.i64.wrap (5 * v) = 5 * v := IntWalk.i64_in _ (by omega); have O8 := Lib.hid (ow_keep O7.out hk (by have := P0.out; have := SB.out; have := S3.out; omega)); have S8 := Lib.hid (Nat.le_trans S7.out hk.size); have HV := Lib.hid (show 0 ≤ 5 * v ∧ 5 * v ≤ 75 by omega); clear O7 S7 hv1; have K8 := Lib.hid (K7.out.trans hk); have C8 := Lib.hid hc; have Z8 := Lib.hid (bx_keep Z7.out hk (by have := P0.out; omega)); have X8 := Lib.hid (bx_keep X7.out hk (by have := P0.out; have := S3.out; omega)); clear hk hc K7 C7 Z7 X7; have c1_0 : w8.cell? ⟨b, 0, none⟩ = some (.slice A m c) := X8.out.cell 0; have c2_0 : ∀ o, (w8.alloc o).cell? ⟨b, 0, none⟩ = some (.slice A m c) := fun o => (X8.out.below (below_box _ _)).cell 0))
      all_goals
        clear m1 hv0 hv2 d0 g0
        have HK4 := Lib.hid (show wrap64 (k : Int) = (k : Int) by have := HN.out; unfold wrap64; omega)
        go_wp2_with fail
        go_roundw
      all_goals first
        | (rw [HK4.out]; show ((k : Int)).toNat < (((k + 1 : Nat) : Int)).toNat; omega)
        | exact ⟨k, m + 1, c2, A2, z ++ [5 * v], (by rw [HK4.out]), by omega, X9.out.set 0 _, (O9.out.same (by simp [World.setCell]) (fun j h1 _ => Below.heap_setCell _ _ _ _ (by show j ≠ b; have := SB.out; omega))).up, I7.out.push HV.out, Z9.out.other (by have := S3.out; omega) _ _, K9.out.later (B := w.heap.size + 1) (by omega) ((Below.refl _ _).setCell (p := ⟨b, 0, none⟩) (by have := S3.out; show w.heap.size + 1 ≤ b; omega) _), Cur.later C0.out K9.out C9.out (B := w.heap.size + 1) (by omega) ((Below.refl _ _).setCell (p := ⟨b, 0, none⟩) (by have := S3.out; show w.heap.size + 1 ≤ b; omega) _), by have := S9.out; simpa [World.setCell] using this⟩
    · obtain rfl : k = 0 := by omega
      have hk1 : ¬ (0 : Int) < ((0 : Nat) : Int) := by omega
      have X7 := Lib.hid hX
      have O7 := Lib.hid hO
      have I7 := Lib.hid hI
      have Z7 := Lib.hid hZ
      have K7 := Lib.hid hK
      have C7 := Lib.hid hC
      clear hX hO hI hZ hK hC hbd
      have x0 : wr.cell? ⟨b, 0, none⟩ = some (.slice A m c) := X7.out.cell 0
      have x1 : wr.cell? ⟨b, 1, none⟩ = some (.int .i64 x) := X7.out.cell 1
      have x2 : wr.cell? ⟨b, 2, none⟩ = some (.int .i64 y) := X7.out.cell 2
      have z_0 : wr.cell? ⟨w.heap.size, 0, none⟩ = some (.slice none 0 0) := Z7.out.cell 0
      have z_1 : wr.cell? ⟨w.heap.size, 1, none⟩ = some (.int .i64 0) := Z7.out.cell 1
      have z_2 : wr.cell? ⟨w.heap.size, 2, none⟩ = some (.int .i64 0) := Z7.out.cell 2
      have fz0 : wr.frozen? ⟨w.heap.size, 0, none⟩ = false := Z7.out.free 0
      have fz1 : wr.frozen? ⟨w.heap.size, 1, none⟩ = false := Z7.out.free 1
      have fz2 : wr.frozen? ⟨w.heap.size, 2, none⟩ = false := Z7.out.free 2
      go_wp2_with fail
      (try simp only [Exit.inBlock, Exit.then])
      refine bodyPost_ret (v := .agg #[.slice A m c, .int .i64 x, .int .i64 y]) ?_ rfl ⟨A, m, c, x, y, z, rfl, ⟨by have := HN.out; omega, by have := HN.out; omega, HX.out.1, HX.out.2, HY.out.1, HY.out.2⟩, I7.out, ?_, ?_, ?_⟩
      · rw [results_cell1 rfl]
        go_simp
      · exact ((ow_three O7.out (by have := SB.out; have := S3.out; omega) _ _ _).up).down (by have := SB.out; have := S3.out; omega)
      · exact K7.out.later (B := w.heap.size) (Nat.le_refl _) (below_three (Below.refl w.heap.size wr) (Nat.le_refl _) _ _ _)
      · exact Cur.later C0.out K7.out C7.out (B := w.heap.size) (Nat.le_refl _) (below_three (Below.refl w.heap.size wr) (Nat.le_refl _) _ _ _)
end Go.Proofs.Ytichhbkgebimeaa.draw
