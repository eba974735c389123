/- Draws of stage 12: frames, bytes that were bent, encodings. Condition: the bytes that are drawn from are a slice that came in. -/
import Derived.Test.YtebbnopconbnlaaFen
import Derived.Test.YtebbnopconbnlaaFhr
import Derived.Test.YtebbnopconbnlaaDraw2
import Derived.Test.YtebbnopconbnlaaDrawB
namespace Go.Proofs.Ytebbnopconbnlaa.draw
open Go.RowKit sl harn fbx frm
set_option linter.unusedVariables false

theorem bx_keep {T : TypeId} {w w' : World} {p b : Nat} {cs : Array Value} (h : Bx T w b cs) (k : Keep p w w') (hn : b ≠ p) : Bx T w' b cs := h.same (k.block b h.lt hn)
theorem Keep.later {p : Nat} {w w1 w2 : World} (h : Keep p w w1) {B : Nat} (hB : w.heap.size ≤ B) (hb : Below B w1 w2) : Keep p w w2 :=
  ⟨hb.os.trans h.os, hb.tape.trans h.tape, hb.output.trans h.output, Nat.le_trans h.size hb.size, fun j hj hn => (hb.block j (by omega)).trans (h.block j hj hn)⟩
/-- The cursor behind a change above it. -/
theorem Cur.later {w w1 w2 : World} {p B : Nat} {a : Option Addr} {len cap : Nat} (h0 : Cur w p a len cap) (hk : Keep p w w1) (h : Cur w1 p a len cap) (hB : w.heap.size ≤ B) (hb : Below B w1 w2) : Cur w2 p a len cap := by
  have k2 := hk.later hB hb
  have hp := h0.lt
  obtain ⟨-, i, g, hi, hblk⟩ := h
  exact ⟨h0.1.keep k2, i, g, hi, (hb.block p (by omega)).trans hblk⟩
/-- Numbers of a drawn frame. -/
def Small (x : Int) : Prop := -100000 ≤ x ∧ x ≤ 100000
/-- A frame that was drawn. -/
def FrmPost (p : Nat) (a : Option Addr) (len cap : Nat) (w : World) (e : Ending) (w' : World) : Prop :=
  ∃ (k f t s g : Int) (m r : Bool) (d : Int) (A : Option Addr) (n c : Nat) (z : List Int), e = .returned (.agg #[.int .i64 k, .int .i64 f, .int .i64 t, .int .i64 s, .int .i64 g, .bool m, .bool r, .int .i64 d, .slice A n c]) ∧ (Small k ∧ Small f ∧ Small t ∧ Small s ∧ Small g ∧ Small d) ∧ n ≤ 1000 ∧
    Ow 5 .u8 w' w.heap.size w'.heap.size A n c z ∧ Keep p w w' ∧ Cur w' p a len cap

set_option maxRecDepth 100000 in
set_option maxHeartbeats 4000000 in
theorem frm_ (w : World) (p : Nat) (a : Option Addr) (len cap : Nat) (hc : Cur w p a len cap) :
    Calls Try.prog 60 #[.pointer (some ⟨p, 0, none⟩)] w (FrmPost p a len cap w) := by
  have C0 := Lib.hid hc
  have P0 := Lib.hid hc.lt
  clear hc
  go_enter Try.func60, Try.ntmps60
  go_wp2_with fail
  obtain ⟨w1, hW⟩ : ∃ w1, w.alloc (.cells #[.int .i64 0, .int .i64 0, .int .i64 0, .int .i64 0, .int .i64 0, .bool false, .bool false, .int .i64 0, .slice none 0 0] 27) = w1 := ⟨_, rfl⟩
  rw [hW]
  have K1 := Lib.hid (show Keep p w w1 by rw [← hW]; exact (Keep.refl p w).alloc _)
  have C1 := Lib.hid (show Cur w1 p a len cap by rw [← hW]; exact C0.out.alloc _)
  have Z1 := Lib.hid (show Bx 27 w1 w.heap.size #[.int .i64 0, .int .i64 0, .int .i64 0, .int .i64 0, .int .i64 0, .bool false, .bool false, .int .i64 0, .slice none 0 0] by rw [← hW]; exact Bx.made _ _ _)
  clear hW
  (with_reducible refine (below 7 (by omega) _ p a len cap C1.out).mono ?_)
  rintro e w2 ⟨x0, rfl, hx0, hx1, hk, hc⟩
  have K2 := Lib.hid (K1.out.trans hk)
  have C2 := Lib.hid hc
  have Z2 := Lib.hid (bx_keep Z1.out hk (by have := P0.out; omega))
  have lx0 := hx0
  have ux0 := hx1 (by omega)
  clear hx0 hx1
  clear hk hc K1 C1 Z1
  go_wp2_with fail
  (with_reducible refine (below 4 (by omega) _ p a len cap C2.out).mono ?_)
  rintro e w3 ⟨x1, rfl, hx0, hx1, hk, hc⟩
  have K3 := Lib.hid (K2.out.trans hk)
  have C3 := Lib.hid hc
  have Z3 := Lib.hid (bx_keep Z2.out hk (by have := P0.out; omega))
  have lx1 := hx0
  have ux1 := hx1 (by omega)
  clear hx0 hx1
  clear hk hc K2 C2 Z2
  go_wp2_with fail
  (with_reducible refine (below 3 (by omega) _ p a len cap C3.out).mono ?_)
  rintro e w4 ⟨x2, rfl, hx0, hx1, hk, hc⟩
  have K4 := Lib.hid (K3.out.trans hk)
  have C4 := Lib.hid hc
  have Z4 := Lib.hid (bx_keep Z3.out hk (by have := P0.out; omega))
  have lx2 := hx0
  have ux2 := hx1 (by omega)
  clear hx0 hx1
  clear hk hc K3 C3 Z3
  go_wp2_with fail
  (with_reducible refine (below 20 (by omega) _ p a len cap C4.out).mono ?_)
  rintro e w5 ⟨x3, rfl, hx0, hx1, hk, hc⟩
  have K5 := Lib.hid (K4.out.trans hk)
  have C5 := Lib.hid hc
  have Z5 := Lib.hid (bx_keep Z4.out hk (by have := P0.out; omega))
  have lx3 := hx0
  have ux3 := hx1 (by omega)
  clear hx0 hx1
  clear hk hc K4 C4 Z4
  go_wp2_with fail
  (with_reducible refine (below 3 (by omega) _ p a len cap C5.out).mono ?_)
  rintro e w6 ⟨x4, rfl, hx0, hx1, hk, hc⟩
  have K6 := Lib.hid (K5.out.trans hk)
  have C6 := Lib.hid hc
  have Z6 := Lib.hid (bx_keep Z5.out hk (by have := P0.out; omega))
  have lx4 := hx0
  have ux4 := hx1 (by omega)
  clear hx0 hx1
  clear hk hc K5 C5 Z5
  go_wp2_with fail
  (with_reducible refine (once 3 (by omega) _ p a len cap C6.out).mono ?_)
  rintro e w7 ⟨b0, rfl, hk, hc⟩
  have K7 := Lib.hid (K6.out.trans hk)
  have C7 := Lib.hid hc
  have Z7 := Lib.hid (bx_keep Z6.out hk (by have := P0.out; omega))
  clear hk hc K6 C6 Z6
  go_wp2_with fail
  (with_reducible refine (once 3 (by omega) _ p a len cap C7.out).mono ?_)
  rintro e w8 ⟨b1, rfl, hk, hc⟩
  have K8 := Lib.hid (K7.out.trans hk)
  have C8 := Lib.hid hc
  have Z8 := Lib.hid (bx_keep Z7.out hk (by have := P0.out; omega))
  clear hk hc K7 C7 Z7
  go_wp2_with fail
  (with_reducible refine (below 9 (by omega) _ p a len cap C8.out).mono ?_)
  rintro e w9 ⟨x7, rfl, hx0, hx1, hk, hc⟩
  have K9 := Lib.hid (K8.out.trans hk)
  have C9 := Lib.hid hc
  have Z9 := Lib.hid (bx_keep Z8.out hk (by have := P0.out; omega))
  have lx7 := hx0
  have ux7 := hx1 (by omega)
  clear hx0 hx1
  clear hk hc K8 C8 Z8
  obtain ⟨k, hk⟩ : ∃ k, 1 + x0 = k := ⟨_, rfl⟩
  obtain ⟨t, ht⟩ : ∃ t, 4 + x2 = t := ⟨_, rfl⟩
  have e1 : IntKind.i64.wrap k = k := IntWalk.i64_in _ (by omega)
  have e2 : IntKind.i64.wrap t = t := IntWalk.i64_in _ (by omega)
  have HS := Lib.hid (show Small k ∧ Small x1 ∧ Small t ∧ Small x3 ∧ Small x4 ∧ Small x7 by unfold Small; omega)
  have HS2 := Lib.hid (show Small k ∧ Small x1 ∧ Small 63 ∧ Small x3 ∧ Small x4 ∧ Small x7 by unfold Small; omega)
  obtain ⟨b, hb⟩ : ∃ b, w9.heap.size = b := ⟨_, rfl⟩
  have S3 := Lib.hid (show w.heap.size < b by rw [← hb]; exact Z9.out.lt)
  go_wp2_with fail
  obtain ⟨w10, hW⟩ : ∃ w10, w9.alloc (.cells #[.int .i64 k, .int .i64 x1, .int .i64 t, .int .i64 x3, .int .i64 x4, .bool b0, .bool b1, .int .i64 x7, .slice none 0 0] 27) = w10 := ⟨_, rfl⟩
  rw [hW]
  have K10 := Lib.hid (show Keep p w w10 by rw [← hW]; exact K9.out.alloc _)
  have C10 := Lib.hid (show Cur w10 p a len cap by rw [← hW]; exact C9.out.alloc _)
  have Z10 := Lib.hid (show Bx 27 w10 w.heap.size #[.int .i64 0, .int .i64 0, .int .i64 0, .int .i64 0, .int .i64 0, .bool false, .bool false, .int .i64 0, .slice none 0 0] by rw [← hW]; exact Z9.out.below (below_box _ _))
  have X10 := Lib.hid (show Bx 27 w10 b #[.int .i64 k, .int .i64 x1, .int .i64 t, .int .i64 x3, .int .i64 x4, .bool b0, .bool b1, .int .i64 x7, .slice none 0 0] by rw [← hW, ← hb]; exact Bx.made _ _ _)
  try rw [hb]
  clear hW hk ht K9 C9 Z9 e1 e2 lx0 ux0 lx1 ux1 lx2 ux2 lx3 ux3 lx4 ux4 lx7 ux7
  obtain ⟨ct, hct⟩ : ∃ ct, decide (Ctl k) = ct := ⟨_, rfl⟩
  have HCT := Lib.hid hct
  clear hct
  (with_reducible refine (specCtl k ct _ HCT.out).mono ?_)
  rintro e w11 ⟨rfl, rfl⟩
  cases ct with
  | true =>
    have z0 : w10.cell? ⟨w.heap.size, 0, none⟩ = some (.int .i64 0) := Z10.out.cell 0
    have z1 : w10.cell? ⟨w.heap.size, 1, none⟩ = some (.int .i64 0) := Z10.out.cell 1
    have z2 : w10.cell? ⟨w.heap.size, 2, none⟩ = some (.int .i64 0) := Z10.out.cell 2
    have z3 : w10.cell? ⟨w.heap.size, 3, none⟩ = some (.int .i64 0) := Z10.out.cell 3
    have z4 : w10.cell? ⟨w.heap.size, 4, none⟩ = some (.int .i64 0) := Z10.out.cell 4
    have z5 : w10.cell? ⟨w.heap.size, 5, none⟩ = some (.bool false) := Z10.out.cell 5
    have z6 : w10.cell? ⟨w.heap.size, 6, none⟩ = some (.bool false) := Z10.out.cell 6
    have z7 : w10.cell? ⟨w.heap.size, 7, none⟩ = some (.int .i64 0) := Z10.out.cell 7
    have z8 : w10.cell? ⟨w.heap.size, 8, none⟩ = some (.slice none 0 0) := Z10.out.cell 8
    have u0 : w10.frozen? ⟨w.heap.size, 0, none⟩ = false := Z10.out.free 0
    have u1 : w10.frozen? ⟨w.heap.size, 1, none⟩ = false := Z10.out.free 1
    have u2 : w10.frozen? ⟨w.heap.size, 2, none⟩ = false := Z10.out.free 2
    have u3 : w10.frozen? ⟨w.heap.size, 3, none⟩ = false := Z10.out.free 3
    have u4 : w10.frozen? ⟨w.heap.size, 4, none⟩ = false := Z10.out.free 4
    have u5 : w10.frozen? ⟨w.heap.size, 5, none⟩ = false := Z10.out.free 5
    have u6 : w10.frozen? ⟨w.heap.size, 6, none⟩ = false := Z10.out.free 6
    have u7 : w10.frozen? ⟨w.heap.size, 7, none⟩ = false := Z10.out.free 7
    have u8 : w10.frozen? ⟨w.heap.size, 8, none⟩ = false := Z10.out.free 8
    have x_0 : w10.cell? ⟨b, 0, none⟩ = some (.int .i64 k) := X10.out.cell 0
    have x_1 : w10.cell? ⟨b, 1, none⟩ = some (.int .i64 x1) := X10.out.cell 1
    have x_2 : w10.cell? ⟨b, 2, none⟩ = some (.int .i64 t) := X10.out.cell 2
    have x_3 : w10.cell? ⟨b, 3, none⟩ = some (.int .i64 x3) := X10.out.cell 3
    have x_4 : w10.cell? ⟨b, 4, none⟩ = some (.int .i64 x4) := X10.out.cell 4
    have x_5 : w10.cell? ⟨b, 5, none⟩ = some (.bool b0) := X10.out.cell 5
    have x_6 : w10.cell? ⟨b, 6, none⟩ = some (.bool b1) := X10.out.cell 6
    have x_7 : w10.cell? ⟨b, 7, none⟩ = some (.int .i64 x7) := X10.out.cell 7
    have x_8 : w10.cell? ⟨b, 8, none⟩ = some (.slice none 0 0) := X10.out.cell 8
    go_wp2_with fail
    (try simp only [Exit.inBlock, Exit.then])
    refine bodyPost_ret (v := .agg #[.int .i64 k, .int .i64 x1, .int .i64 t, .int .i64 x3, .int .i64 x4, .bool b0, .bool b1, .int .i64 x7, .slice none 0 0]) ?_ rfl ?_
    · rw [results_cell1 rfl]
      go_simp
    · have hbl : Below w.heap.size w10 (((((((((w10.setCell ⟨w.heap.size, 0, none⟩ (.int .i64 k)).setCell ⟨w.heap.size, 1, none⟩ (.int .i64 x1)).setCell ⟨w.heap.size, 2, none⟩ (.int .i64 t)).setCell ⟨w.heap.size, 3, none⟩ (.int .i64 x3)).setCell ⟨w.heap.size, 4, none⟩ (.int .i64 x4)).setCell ⟨w.heap.size, 5, none⟩ (.bool b0)).setCell ⟨w.heap.size, 6, none⟩ (.bool b1)).setCell ⟨w.heap.size, 7, none⟩ (.int .i64 x7)).setCell ⟨w.heap.size, 8, none⟩ (.slice none 0 0)) := below_nine (B := w.heap.size) ((Below.refl w10.heap.size w10).mono (by have := Z10.out.lt; omega)) (Nat.le_refl _) _ _ _ _ _ _ _ _ _
      exact ⟨_, _, _, _, _, _, _, _, _, _, _, [], rfl, HS.out, by omega, ow_none _ _ _ _ _ (by first | exact Nat.le_refl _ | simp), K10.out.later (Nat.le_refl _) hbl, Cur.later C0.out K10.out C10.out (Nat.le_refl _) hbl⟩
  | false =>
    go_wp2_with fail
    (with_reducible refine (below 6 (by omega) _ p a len cap C10.out).mono ?_)
    rintro e w11 ⟨y, rfl, hx0, hx1, hk, hc⟩
    have K11 := Lib.hid (K10.out.trans hk)
    have C11 := Lib.hid hc
    have Z11 := Lib.hid (bx_keep Z10.out hk (by have := P0.out; omega))
    have X11 := Lib.hid (bx_keep X10.out hk (by have := P0.out; have := S3.out; omega))
    have ly := hx0
    have uy := hx1 (by omega)
    clear hx0 hx1
    clear hk hc K10 C10 Z10 X10
    have SY := Lib.hid (show b < w11.heap.size from X11.out.lt)
    go_wp2_with fail
    (with_reducible refine (bytes y ly (by omega) _ p a len cap C11.out).mono ?_)
    rintro e w12 ⟨A, n, c, zs, rfl, hn, ho, hk, hc⟩
    have K12 := Lib.hid (K11.out.trans hk)
    have C12 := Lib.hid hc
    have Z12 := Lib.hid (bx_keep Z11.out hk (by have := P0.out; omega))
    have X12 := Lib.hid (bx_keep X11.out hk (by have := P0.out; have := S3.out; omega))
    have Y12 := Lib.hid ho
    clear ho
    clear hk hc K11 C11 Z11 X11
    have HN := Lib.hid (show n ≤ 1000 by omega)
    clear hn ly uy
    have x_8 : w12.cell? ⟨b, 8, none⟩ = some (.slice none 0 0) := X12.out.cell 8
    have fx : w12.frozen? ⟨b, 8, none⟩ = false := X12.out.free 8
    go_wp2_with fail
    obtain ⟨w13, hW⟩ : ∃ w13, w12.setCell ⟨b, 8, none⟩ (.slice A n c) = w13 := ⟨_, rfl⟩
    rw [hW]
    have hbl : Below w.heap.size w12 w13 := by rw [← hW]; exact ((Below.refl w12.heap.size w12).mono (by have := Z12.out.lt; omega)).setCell (p := ⟨b, 8, none⟩) (by show w.heap.size ≤ b; have := S3.out; omega) _
    have K13 := Lib.hid (K12.out.later (Nat.le_refl _) hbl)
    have C13 := Lib.hid (Cur.later C0.out K12.out C12.out (Nat.le_refl _) hbl)
    have Z13 := Lib.hid (show Bx 27 w13 w.heap.size #[.int .i64 0, .int .i64 0, .int .i64 0, .int .i64 0, .int .i64 0, .bool false, .bool false, .int .i64 0, .slice none 0 0] by rw [← hW]; exact Z12.out.other (by have := S3.out; omega) _ _)
    have X13 := Lib.hid (show Bx 27 w13 b #[.int .i64 k, .int .i64 x1, .int .i64 t, .int .i64 x3, .int .i64 x4, .bool b0, .bool b1, .int .i64 x7, .slice A n c] by rw [← hW]; exact X12.out.set 8 _)
    have Y13 := Lib.hid (show Ow 5 .u8 w13 w11.heap.size w12.heap.size A n c zs by rw [← hW]; exact Y12.out.same (by simp [World.setCell]) (fun q h1 _ => Below.heap_setCell _ _ _ _ (by show q ≠ b; have := SY.out; omega)))
    clear hW hbl K12 C12 Z12 X12 Y12 x_8 fx
    (with_reducible refine (once 4 (by omega) _ p a len cap C13.out).mono ?_)
    rintro e w14 ⟨bb, rfl, hk, hc⟩
    have K14 := Lib.hid (K13.out.trans hk)
    have C14 := Lib.hid hc
    have Z14 := Lib.hid (bx_keep Z13.out hk (by have := P0.out; omega))
    have X14 := Lib.hid (bx_keep X13.out hk (by have := P0.out; have := S3.out; omega))
    have Y14 := Lib.hid (ow_keep Y13.out hk (by have := P0.out; have := SY.out; have := S3.out; omega))
    clear hk hc K13 C13 Z13 X13 Y13
    cases bb with
    | true =>
      have hne : b ≠ w.heap.size := by have := S3.out; omega
      have z0 : w14.cell? ⟨w.heap.size, 0, none⟩ = some (.int .i64 0) := Z14.out.cell 0
      have z1 : w14.cell? ⟨w.heap.size, 1, none⟩ = some (.int .i64 0) := Z14.out.cell 1
      have z2 : w14.cell? ⟨w.heap.size, 2, none⟩ = some (.int .i64 0) := Z14.out.cell 2
      have z3 : w14.cell? ⟨w.heap.size, 3, none⟩ = some (.int .i64 0) := Z14.out.cell 3
      have z4 : w14.cell? ⟨w.heap.size, 4, none⟩ = some (.int .i64 0) := Z14.out.cell 4
      have z5 : w14.cell? ⟨w.heap.size, 5, none⟩ = some (.bool false) := Z14.out.cell 5
      have z6 : w14.cell? ⟨w.heap.size, 6, none⟩ = some (.bool false) := Z14.out.cell 6
      have z7 : w14.cell? ⟨w.heap.size, 7, none⟩ = some (.int .i64 0) := Z14.out.cell 7
      have z8 : w14.cell? ⟨w.heap.size, 8, none⟩ = some (.slice none 0 0) := Z14.out.cell 8
      have u0 : w14.frozen? ⟨w.heap.size, 0, none⟩ = false := Z14.out.free 0
      have u1 : w14.frozen? ⟨w.heap.size, 1, none⟩ = false := Z14.out.free 1
      have u2 : w14.frozen? ⟨w.heap.size, 2, none⟩ = false := Z14.out.free 2
      have u3 : w14.frozen? ⟨w.heap.size, 3, none⟩ = false := Z14.out.free 3
      have u4 : w14.frozen? ⟨w.heap.size, 4, none⟩ = false := Z14.out.free 4
      have u5 : w14.frozen? ⟨w.heap.size, 5, none⟩ = false := Z14.out.free 5
      have u6 : w14.frozen? ⟨w.heap.size, 6, none⟩ = false := Z14.out.free 6
      have u7 : w14.frozen? ⟨w.heap.size, 7, none⟩ = false := Z14.out.free 7
      have u8 : w14.frozen? ⟨w.heap.size, 8, none⟩ = false := Z14.out.free 8
      have x_0 : w14.cell? ⟨b, 0, none⟩ = some (.int .i64 k) := X14.out.cell 0
      have x_1 : w14.cell? ⟨b, 1, none⟩ = some (.int .i64 x1) := X14.out.cell 1
      have x_2 : w14.cell? ⟨b, 2, none⟩ = some (.int .i64 t) := X14.out.cell 2
      have x_3 : w14.cell? ⟨b, 3, none⟩ = some (.int .i64 x3) := X14.out.cell 3
      have x_4 : w14.cell? ⟨b, 4, none⟩ = some (.int .i64 x4) := X14.out.cell 4
      have x_5 : w14.cell? ⟨b, 5, none⟩ = some (.bool b0) := X14.out.cell 5
      have x_6 : w14.cell? ⟨b, 6, none⟩ = some (.bool b1) := X14.out.cell 6
      have x_7 : w14.cell? ⟨b, 7, none⟩ = some (.int .i64 x7) := X14.out.cell 7
      have x_8 : w14.cell? ⟨b, 8, none⟩ = some (.slice A n c) := X14.out.cell 8
      have fx : w14.frozen? ⟨b, 2, none⟩ = false := X14.out.free 2
      go_wp2_with fail
      (try simp only [Exit.inBlock, Exit.then])
      refine bodyPost_ret (v := .agg #[.int .i64 k, .int .i64 x1, .int .i64 63, .int .i64 x3, .int .i64 x4, .bool b0, .bool b1, .int .i64 x7, .slice A n c]) ?_ rfl ?_
      · rw [results_cell1 rfl]
        go_simp
      · have hb1 : Below w.heap.size w14 (w14.setCell ⟨b, 2, none⟩ (.int .i64 63)) := ((Below.refl w14.heap.size w14).mono (by have := Z14.out.lt; omega)).setCell (p := ⟨b, 2, none⟩) (by show w.heap.size ≤ b; have := S3.out; omega) _
        have hbl : Below w.heap.size w14 ((((((((((w14.setCell ⟨b, 2, none⟩ (.int .i64 63)).setCell ⟨w.heap.size, 0, none⟩ (.int .i64 k)).setCell ⟨w.heap.size, 1, none⟩ (.int .i64 x1)).setCell ⟨w.heap.size, 2, none⟩ (.int .i64 63)).setCell ⟨w.heap.size, 3, none⟩ (.int .i64 x3)).setCell ⟨w.heap.size, 4, none⟩ (.int .i64 x4)).setCell ⟨w.heap.size, 5, none⟩ (.bool b0)).setCell ⟨w.heap.size, 6, none⟩ (.bool b1)).setCell ⟨w.heap.size, 7, none⟩ (.int .i64 x7)).setCell ⟨w.heap.size, 8, none⟩ (.slice A n c)) := below_nine hb1 (Nat.le_refl _) _ _ _ _ _ _ _ _ _
        exact ⟨_, _, _, _, _, _, _, _, _, _, _, zs, rfl, HS2.out, HN.out, ((ow_nine (Y14.out.same (by simp [World.setCell]) (fun q h1 _ => Below.heap_setCell _ _ _ _ (by show q ≠ b; have := SY.out; omega))) (by have := SY.out; have := S3.out; omega) _ _ _ _ _ _ _ _ _).down (by have := SY.out; have := S3.out; omega)).up, K14.out.later (Nat.le_refl _) hbl, Cur.later C0.out K14.out C14.out (Nat.le_refl _) hbl⟩
    | false =>
      have z0 : w14.cell? ⟨w.heap.size, 0, none⟩ = some (.int .i64 0) := Z14.out.cell 0
      have z1 : w14.cell? ⟨w.heap.size, 1, none⟩ = some (.int .i64 0) := Z14.out.cell 1
      have z2 : w14.cell? ⟨w.heap.size, 2, none⟩ = some (.int .i64 0) := Z14.out.cell 2
      have z3 : w14.cell? ⟨w.heap.size, 3, none⟩ = some (.int .i64 0) := Z14.out.cell 3
      have z4 : w14.cell? ⟨w.heap.size, 4, none⟩ = some (.int .i64 0) := Z14.out.cell 4
      have z5 : w14.cell? ⟨w.heap.size, 5, none⟩ = some (.bool false) := Z14.out.cell 5
      have z6 : w14.cell? ⟨w.heap.size, 6, none⟩ = some (.bool false) := Z14.out.cell 6
      have z7 : w14.cell? ⟨w.heap.size, 7, none⟩ = some (.int .i64 0) := Z14.out.cell 7
      have z8 : w14.cell? ⟨w.heap.size, 8, none⟩ = some (.slice none 0 0) := Z14.out.cell 8
      have u0 : w14.frozen? ⟨w.heap.size, 0, none⟩ = false := Z14.out.free 0
      have u1 : w14.frozen? ⟨w.heap.size, 1, none⟩ = false := Z14.out.free 1
      have u2 : w14.frozen? ⟨w.heap.size, 2, none⟩ = false := Z14.out.free 2
      have u3 : w14.frozen? ⟨w.heap.size, 3, none⟩ = false := Z14.out.free 3
      have u4 : w14.frozen? ⟨w.heap.size, 4, none⟩ = false := Z14.out.free 4
      have u5 : w14.frozen? ⟨w.heap.size, 5, none⟩ = false := Z14.out.free 5
      have u6 : w14.frozen? ⟨w.heap.size, 6, none⟩ = false := Z14.out.free 6
      have u7 : w14.frozen? ⟨w.heap.size, 7, none⟩ = false := Z14.out.free 7
      have u8 : w14.frozen? ⟨w.heap.size, 8, none⟩ = false := Z14.out.free 8
      have x_0 : w14.cell? ⟨b, 0, none⟩ = some (.int .i64 k) := X14.out.cell 0
      have x_1 : w14.cell? ⟨b, 1, none⟩ = some (.int .i64 x1) := X14.out.cell 1
      have x_2 : w14.cell? ⟨b, 2, none⟩ = some (.int .i64 t) := X14.out.cell 2
      have x_3 : w14.cell? ⟨b, 3, none⟩ = some (.int .i64 x3) := X14.out.cell 3
      have x_4 : w14.cell? ⟨b, 4, none⟩ = some (.int .i64 x4) := X14.out.cell 4
      have x_5 : w14.cell? ⟨b, 5, none⟩ = some (.bool b0) := X14.out.cell 5
      have x_6 : w14.cell? ⟨b, 6, none⟩ = some (.bool b1) := X14.out.cell 6
      have x_7 : w14.cell? ⟨b, 7, none⟩ = some (.int .i64 x7) := X14.out.cell 7
      have x_8 : w14.cell? ⟨b, 8, none⟩ = some (.slice A n c) := X14.out.cell 8
      go_wp2_with fail
      (try simp only [Exit.inBlock, Exit.then])
      refine bodyPost_ret (v := .agg #[.int .i64 k, .int .i64 x1, .int .i64 t, .int .i64 x3, .int .i64 x4, .bool b0, .bool b1, .int .i64 x7, .slice A n c]) ?_ rfl ?_
      · rw [results_cell1 rfl]
        go_simp
      · have hbl : Below w.heap.size w14 (((((((((w14.setCell ⟨w.heap.size, 0, none⟩ (.int .i64 k)).setCell ⟨w.heap.size, 1, none⟩ (.int .i64 x1)).setCell ⟨w.heap.size, 2, none⟩ (.int .i64 t)).setCell ⟨w.heap.size, 3, none⟩ (.int .i64 x3)).setCell ⟨w.heap.size, 4, none⟩ (.int .i64 x4)).setCell ⟨w.heap.size, 5, none⟩ (.bool b0)).setCell ⟨w.heap.size, 6, none⟩ (.bool b1)).setCell ⟨w.heap.size, 7, none⟩ (.int .i64 x7)).setCell ⟨w.heap.size, 8, none⟩ (.slice A n c)) := below_nine (B := w.heap.size) ((Below.refl w14.heap.size w14).mono (by have := Z14.out.lt; omega)) (Nat.le_refl _) _ _ _ _ _ _ _ _ _
        exact ⟨_, _, _, _, _, _, _, _, _, _, _, zs, rfl, HS.out, HN.out, ((ow_nine Y14.out (by have := SY.out; have := S3.out; omega) _ _ _ _ _ _ _ _ _).down (by have := SY.out; have := S3.out; omega)).up, K14.out.later (Nat.le_refl _) hbl, Cur.later C0.out K14.out C14.out (Nat.le_refl _) hbl⟩
end Go.Proofs.Ytebbnopconbnlaa.draw
