/- Merged texts of this seat. DrawC: Draws of stage 10: headers, bytes as many as asked for. Condition: the bytes that are drawn from are a slice that came in. | DrawD: Draws of frames: a header and bytes; bytes exactly as many as asked for. Condition: the bytes that are drawn from are a slice that came in. | Same: The comparisons of the laws: sameBytes, sameInts. Condition: none. -/
import Derived.Test.YtdelpepepbkjmaaGreatDoorG1
import Derived.Test.YtdelpepepbkjmaaGreatDoorG3
import Derived.Test.YtdelpepepbkjmaaGreatDoorG4
section
namespace Go.Proofs.YtdelpepepbkjmaaGreatDoor.draw
open Go.RowKit sl harn phs

theorem Box.keep {w w' : World} {p b : Nat} {r l s : Int} (h : Box w b r l s) (k : Keep p w w') (hn : b ≠ p) : Box w' b r l s := h.same (k.block b h.lt hn)
theorem Box.set0 {w : World} {b : Nat} {r l s v : Int} (h : Box w b r l s) : Box (w.setCell ⟨b, 0, none⟩ (.int .i64 v)) b v l s := by
  unfold Box at h ⊢
  have hlt := lt_of_block h
  have h' : w.heap[b] = .cells #[.int .i64 r, .int .i64 l, .int .i64 s] 25 (0, 0) := by simpa [Array.getElem?_eq_getElem hlt] using h
  show (w.heap.modify b _)[b]? = _
  rw [Array.getElem?_eq_getElem (by simpa using hlt), Array.getElem_modify_self, h']
  rfl
theorem Box.set1 {w : World} {b : Nat} {r l s v : Int} (h : Box w b r l s) : Box (w.setCell ⟨b, 1, none⟩ (.int .i64 v)) b r v s := by
  unfold Box at h ⊢
  exact set3_1 h
theorem Box.set2 {w : World} {b : Nat} {r l s v : Int} (h : Box w b r l s) : Box (w.setCell ⟨b, 2, none⟩ (.int .i64 v)) b r l v := by
  unfold Box at h ⊢
  exact set3_2 h
theorem Box.other {w : World} {b : Nat} {r l s : Int} (h : Box w b r l s) {q : Addr} (hq : b ≠ q.block) (u : Value) : Box (w.setCell q u) b r l s := h.same (Below.heap_setCell _ _ _ _ hq)
theorem Keep.later {p : Nat} {w w1 w2 : World} (h : Keep p w w1) {B : Nat} (hB : w.heap.size ≤ B) (hb : Below B w1 w2) : Keep p w w2 :=
  ⟨hb.os.trans h.os, hb.tape.trans h.tape, hb.output.trans h.output, Nat.le_trans h.size hb.size, fun j hj hn => (hb.block j (by omega)).trans (h.block j hj hn)⟩
/-- The cursor behind a change above it. -/
theorem Cur.later {w w1 w2 : World} {p B : Nat} {a : Option Addr} {len cap : Nat} (h0 : Cur w p a len cap) (hk : Keep p w w1) (h : Cur w1 p a len cap) (hB : w.heap.size ≤ B) (hb : Below B w1 w2) : Cur w2 p a len cap := by
  have k2 := hk.later hB hb
  have hp := h0.lt
  obtain ⟨-, i, g, hi, hblk⟩ := h
  exact ⟨h0.1.keep k2, i, g, hi, (hb.block p (by omega)).trans hblk⟩
/-- A header in ranges. -/
def HdrPost (r0 r1 l0 l1 s0 s1 : Int) (p : Nat) (a : Option Addr) (len cap : Nat) (w : World) (e : Ending) (w' : World) : Prop :=
  ∃ r l s : Int, e = .returned (.agg #[.int .i64 r, .int .i64 l, .int .i64 s]) ∧ (r0 ≤ r ∧ r ≤ r1) ∧ (l0 ≤ l ∧ l ≤ l1) ∧ (s0 ≤ s ∧ s ≤ s1) ∧ Keep p w w' ∧ Cur w' p a len cap
set_option maxRecDepth 100000 in
theorem hdr (w : World) (p : Nat) (a : Option Addr) (len cap : Nat) (hc : Cur w p a len cap) :
    Calls Tryz.prog 46 #[.pointer (some ⟨p, 0, none⟩)] w (HdrPost 1 2 0 5 1 127 p a len cap w) := by
  have C0 := Lib.hid hc
  have P0 := Lib.hid hc.lt
  clear hc
  go_enter Tryz.func46, Tryz.ntmps46
  go_wp2_with fail
  generalize hW : w.alloc (.cells #[.int .i64 0, .int .i64 0, .int .i64 0] 25) = w1
  have K1 := Lib.hid (show Keep p w w1 by rw [← hW]; exact (Keep.refl p w).alloc _)
  have C1 := Lib.hid (show Cur w1 p a len cap by rw [← hW]; exact C0.out.alloc _)
  have X1 := Lib.hid (show Box w1 w.heap.size 0 0 0 by rw [← hW]; exact Box.made _ _ _ _)
  clear hW
  (with_reducible refine (below 2 (by omega) _ p a len cap C1.out).mono ?_)
  rintro e w2 ⟨x, rfl, hx0, hx1, hk, hc⟩
  have hx2 := hx1 (by omega)
  have K2 := Lib.hid (K1.out.trans hk)
  have C2 := Lib.hid hc
  have X2 := Lib.hid (Box.keep X1.out hk (by have := P0.out; omega))
  clear hk hc hx1 K1 C1 X1
  go_wp2_with fail
  (with_reducible refine (below 6 (by omega) _ p a len cap C2.out).mono ?_)
  rintro e w3 ⟨y, rfl, hy0, hy1, hk, hc⟩
  have hy2 := hy1 (by omega)
  have K3 := Lib.hid (K2.out.trans hk)
  have C3 := Lib.hid hc
  have X3 := Lib.hid (Box.keep X2.out hk (by have := P0.out; omega))
  clear hk hc hy1 K2 C2 X2
  go_wp2_with fail
  (with_reducible refine (below 127 (by omega) _ p a len cap C3.out).mono ?_)
  rintro e w4 ⟨z, rfl, hz0, hz1, hk, hc⟩
  have hz2 := hz1 (by omega)
  have K4 := Lib.hid (K3.out.trans hk)
  have C4 := Lib.hid hc
  have X4 := Lib.hid (Box.keep X3.out hk (by have := P0.out; omega))
  clear hk hc hz1 K3 C3 X3
  obtain ⟨r, hr⟩ : ∃ r, 1 + x = r := ⟨_, rfl⟩
  obtain ⟨s, hs⟩ : ∃ s, 1 + z = s := ⟨_, rfl⟩
  have e1 : IntKind.i64.wrap r = r := IntWalk.i64_in _ (by omega)
  have e2 : IntKind.i64.wrap s = s := IntWalk.i64_in _ (by omega)
  have f0 := X4.out.free 0
  have f1 := X4.out.free 1
  have f2 := X4.out.free 2
  have c0 := X4.out.c0
  have c1 := X4.out.c1
  have c2 := X4.out.c2
  go_wp2_with fail
  (try simp only [Exit.inBlock, Exit.then])
  refine bodyPost_ret (v := .agg #[.int .i64 r, .int .i64 y, .int .i64 s]) ?_ rfl ?_
  · rw [results_cell1 rfl]
    go_simp
  · have hbl : Below w.heap.size w4 (((w4.setCell ⟨w.heap.size, 0, none⟩ (.int .i64 r)).setCell ⟨w.heap.size, 1, none⟩ (.int .i64 y)).setCell ⟨w.heap.size, 2, none⟩ (.int .i64 s)) :=
      (((Below.refl _ _).setCell (p := ⟨w.heap.size, 0, none⟩) (Nat.le_refl _) _).setCell (p := ⟨w.heap.size, 1, none⟩) (Nat.le_refl _) _).setCell (p := ⟨w.heap.size, 2, none⟩) (Nat.le_refl _) _
    exact ⟨r, y, s, rfl, by omega, by omega, by omega, K4.out.later (Nat.le_refl _) hbl, Cur.later C0.out K4.out C4.out (Nat.le_refl _) hbl⟩
set_option maxRecDepth 100000 in
set_option maxHeartbeats 4000000 in
theorem anyHdr (w : World) (p : Nat) (a : Option Addr) (len cap : Nat) (hc : Cur w p a len cap) :
    Calls Tryz.prog 25 #[.pointer (some ⟨p, 0, none⟩)] w (HdrPost (-1) 3 (-1) 121 0 128 p a len cap w) := by
  have C0 := Lib.hid hc
  have P0 := Lib.hid hc.lt
  clear hc
  go_enter Tryz.func25, Tryz.ntmps25
  go_wp2_with fail
  generalize hW : w.alloc (.cells #[.int .i64 0, .int .i64 0, .int .i64 0] 25) = w1
  have K1 := Lib.hid (show Keep p w w1 by rw [← hW]; exact (Keep.refl p w).alloc _)
  have C1 := Lib.hid (show Cur w1 p a len cap by rw [← hW]; exact C0.out.alloc _)
  have X1 := Lib.hid (show Box w1 w.heap.size 0 0 0 by rw [← hW]; exact Box.made _ _ _ _)
  clear hW
  (with_reducible refine (hdr _ p a len cap C1.out).mono ?_)
  rintro e w2 ⟨r, l, s, rfl, hr, hl, hs, hk, hc⟩
  have K2 := Lib.hid (K1.out.trans hk)
  have X2 := Lib.hid (Box.keep X1.out hk (by have := P0.out; omega))
  have C2 := Lib.hid hc
  clear hk hc K1 C1 X1
  obtain ⟨b, hb⟩ : ∃ b, w2.heap.size = b := ⟨_, rfl⟩
  have S3 := Lib.hid (show w.heap.size < b by rw [← hb]; exact X2.out.lt)
  go_wp2_with fail
  generalize hW : w2.alloc (.cells #[.int .i64 r, .int .i64 l, .int .i64 s] 25) = w3
  have K3 := Lib.hid (show Keep p w w3 by rw [← hW]; exact K2.out.alloc _)
  have C3 := Lib.hid (show Cur w3 p a len cap by rw [← hW]; exact C2.out.alloc _)
  have X3 := Lib.hid (show Box w3 w.heap.size 0 0 0 by rw [← hW]; exact X2.out.below (below_box _ _))
  have Y3 := Lib.hid (show Box w3 b r l s by rw [← hW, ← hb]; exact Box.made _ _ _ _)
  clear hW hb K2 C2 X2
  (with_reducible refine (below 8 (by omega) _ p a len cap C3.out).mono ?_)
  rintro e w4 ⟨x, rfl, hx0, hx1, hk, hc⟩
  have K4 := Lib.hid (K3.out.trans hk)
  have C4 := Lib.hid hc
  have X4 := Lib.hid (Box.keep X3.out hk (by have := P0.out; omega))
  have Y4 := Lib.hid (Box.keep Y3.out hk (by have := P0.out; have := S3.out; omega))
  clear hk hc hx1 K3 C3 X3 Y3
  by_cases h0 : x = 0
  · subst h0
    go_wp2_with fail
    (with_reducible refine (pickIn (-1) 3 3 (by omega) (by omega) _ p a len cap C4.out #[.int .i64 (-1), .int .i64 0, .int .i64 3] rfl (by decide)).mono ?_)
    rintro e w5 ⟨v, rfl, hv0, hv1, hk, hc⟩
    have K5 := Lib.hid (K4.out.trans hk)
    have C5 := Lib.hid hc
    have X5 := Lib.hid (Box.keep X4.out hk (by have := P0.out; omega))
    have Y5 := Lib.hid (Box.keep Y4.out hk (by have := P0.out; have := S3.out; omega))
    have fy := Y5.out.free 0
    have y0 := Y5.out.c0
    have y1 := Y5.out.c1
    have y2 := Y5.out.c2
    have x0 := X5.out.c0
    have x1 := X5.out.c1
    have x2 := X5.out.c2
    have f0 := X5.out.free 0
    have f1 := X5.out.free 1
    have f2 := X5.out.free 2
    have nb1 : ¬ w.heap.size = b := by have := S3.out; omega
    have nb2 : ¬ b = w.heap.size := by have := S3.out; omega
    have BB := Lib.hid (show Below w.heap.size w5 (w5.setCell ⟨b, 0, none⟩ (.int .i64 v)) from (Below.refl _ _).setCell (p := ⟨b, 0, none⟩) (Nat.le_of_lt S3.out) _)
    have K6 := Lib.hid (K5.out.later (Nat.le_refl _) BB.out)
    have C6 := Lib.hid (Cur.later C0.out K5.out C5.out (Nat.le_refl _) BB.out)
    clear hk hc K5 C5
    go_wp2_with fail
    (try simp only [Exit.inBlock, Exit.then])
    refine bodyPost_ret (v := .agg #[.int .i64 v, .int .i64 l, .int .i64 s]) ?_ rfl ?_
    · rw [results_cell1 rfl]
      go_simp
    · have hbl : Below w.heap.size (w5.setCell ⟨b, 0, none⟩ (.int .i64 v)) ((((w5.setCell ⟨b, 0, none⟩ (.int .i64 v)).setCell ⟨w.heap.size, 0, none⟩ (.int .i64 v)).setCell ⟨w.heap.size, 1, none⟩ (.int .i64 l)).setCell ⟨w.heap.size, 2, none⟩ (.int .i64 s)) :=
        (((Below.refl _ _).setCell (p := ⟨w.heap.size, 0, none⟩) (Nat.le_refl _) _).setCell (p := ⟨w.heap.size, 1, none⟩) (Nat.le_refl _) _).setCell (p := ⟨w.heap.size, 2, none⟩) (Nat.le_refl _) _
      exact ⟨v, l, s, rfl, by omega, by omega, by omega, K6.out.later (Nat.le_refl _) hbl, Cur.later C0.out K6.out C6.out (Nat.le_refl _) hbl⟩
  · by_cases h1 : x = 1
    · subst h1
      go_wp2_with fail
      (with_reducible refine (pickIn (-1) 121 3 (by omega) (by omega) _ p a len cap C4.out #[.int .i64 (-1), .int .i64 120, .int .i64 121] rfl (by decide)).mono ?_)
      rintro e w5 ⟨v, rfl, hv0, hv1, hk, hc⟩
      have K5 := Lib.hid (K4.out.trans hk)
      have C5 := Lib.hid hc
      have X5 := Lib.hid (Box.keep X4.out hk (by have := P0.out; omega))
      have Y5 := Lib.hid (Box.keep Y4.out hk (by have := P0.out; have := S3.out; omega))
      have fy := Y5.out.free 1
      have y0 := Y5.out.c0
      have y1 := Y5.out.c1
      have y2 := Y5.out.c2
      have x0 := X5.out.c0
      have x1 := X5.out.c1
      have x2 := X5.out.c2
      have f0 := X5.out.free 0
      have f1 := X5.out.free 1
      have f2 := X5.out.free 2
      have nb1 : ¬ w.heap.size = b := by have := S3.out; omega
      have nb2 : ¬ b = w.heap.size := by have := S3.out; omega
      have BB := Lib.hid (show Below w.heap.size w5 (w5.setCell ⟨b, 1, none⟩ (.int .i64 v)) from (Below.refl _ _).setCell (p := ⟨b, 1, none⟩) (Nat.le_of_lt S3.out) _)
      have K6 := Lib.hid (K5.out.later (Nat.le_refl _) BB.out)
      have C6 := Lib.hid (Cur.later C0.out K5.out C5.out (Nat.le_refl _) BB.out)
      clear hk hc K5 C5
      go_wp2_with fail
      (try simp only [Exit.inBlock, Exit.then])
      refine bodyPost_ret (v := .agg #[.int .i64 r, .int .i64 v, .int .i64 s]) ?_ rfl ?_
      · rw [results_cell1 rfl]
        go_simp
      · have hbl : Below w.heap.size (w5.setCell ⟨b, 1, none⟩ (.int .i64 v)) ((((w5.setCell ⟨b, 1, none⟩ (.int .i64 v)).setCell ⟨w.heap.size, 0, none⟩ (.int .i64 r)).setCell ⟨w.heap.size, 1, none⟩ (.int .i64 v)).setCell ⟨w.heap.size, 2, none⟩ (.int .i64 s)) :=
          (((Below.refl _ _).setCell (p := ⟨w.heap.size, 0, none⟩) (Nat.le_refl _) _).setCell (p := ⟨w.heap.size, 1, none⟩) (Nat.le_refl _) _).setCell (p := ⟨w.heap.size, 2, none⟩) (Nat.le_refl _) _
        exact ⟨r, v, s, rfl, by omega, by omega, by omega, K6.out.later (Nat.le_refl _) hbl, Cur.later C0.out K6.out C6.out (Nat.le_refl _) hbl⟩
    · by_cases h2 : x = 2
      · subst h2
        go_wp2_with fail
        (with_reducible refine (pickIn (0) 128 3 (by omega) (by omega) _ p a len cap C4.out #[.int .i64 0, .int .i64 127, .int .i64 128] rfl (by decide)).mono ?_)
        rintro e w5 ⟨v, rfl, hv0, hv1, hk, hc⟩
        have K5 := Lib.hid (K4.out.trans hk)
        have C5 := Lib.hid hc
        have X5 := Lib.hid (Box.keep X4.out hk (by have := P0.out; omega))
        have Y5 := Lib.hid (Box.keep Y4.out hk (by have := P0.out; have := S3.out; omega))
        have fy := Y5.out.free 2
        have y0 := Y5.out.c0
        have y1 := Y5.out.c1
        have y2 := Y5.out.c2
        have x0 := X5.out.c0
        have x1 := X5.out.c1
        have x2 := X5.out.c2
        have f0 := X5.out.free 0
        have f1 := X5.out.free 1
        have f2 := X5.out.free 2
        have nb1 : ¬ w.heap.size = b := by have := S3.out; omega
        have nb2 : ¬ b = w.heap.size := by have := S3.out; omega
        have BB := Lib.hid (show Below w.heap.size w5 (w5.setCell ⟨b, 2, none⟩ (.int .i64 v)) from (Below.refl _ _).setCell (p := ⟨b, 2, none⟩) (Nat.le_of_lt S3.out) _)
        have K6 := Lib.hid (K5.out.later (Nat.le_refl _) BB.out)
        have C6 := Lib.hid (Cur.later C0.out K5.out C5.out (Nat.le_refl _) BB.out)
        clear hk hc K5 C5
        go_wp2_with fail
        (try simp only [Exit.inBlock, Exit.then])
        refine bodyPost_ret (v := .agg #[.int .i64 r, .int .i64 l, .int .i64 v]) ?_ rfl ?_
        · rw [results_cell1 rfl]
          go_simp
        · have hbl : Below w.heap.size (w5.setCell ⟨b, 2, none⟩ (.int .i64 v)) ((((w5.setCell ⟨b, 2, none⟩ (.int .i64 v)).setCell ⟨w.heap.size, 0, none⟩ (.int .i64 r)).setCell ⟨w.heap.size, 1, none⟩ (.int .i64 l)).setCell ⟨w.heap.size, 2, none⟩ (.int .i64 v)) :=
            (((Below.refl _ _).setCell (p := ⟨w.heap.size, 0, none⟩) (Nat.le_refl _) _).setCell (p := ⟨w.heap.size, 1, none⟩) (Nat.le_refl _) _).setCell (p := ⟨w.heap.size, 2, none⟩) (Nat.le_refl _) _
          exact ⟨r, l, v, rfl, by omega, by omega, by omega, K6.out.later (Nat.le_refl _) hbl, Cur.later C0.out K6.out C6.out (Nat.le_refl _) hbl⟩
      · have y0 := Y4.out.c0
        have y1 := Y4.out.c1
        have y2 := Y4.out.c2
        have x0 := X4.out.c0
        have x1 := X4.out.c1
        have x2 := X4.out.c2
        have f0 := X4.out.free 0
        have f1 := X4.out.free 1
        have f2 := X4.out.free 2
        have q0 : (x == 0) = false := by simpa using h0
        have q1 : (x == 1) = false := by simpa using h1
        have q2 : (x == 2) = false := by simpa using h2
        go_wp2_with fail
        (try simp only [Exit.inBlock, Exit.then])
        refine bodyPost_ret (v := .agg #[.int .i64 r, .int .i64 l, .int .i64 s]) ?_ rfl ?_
        · rw [results_cell1 rfl]
          go_simp
        · have hbl : Below w.heap.size (w4) ((((w4).setCell ⟨w.heap.size, 0, none⟩ (.int .i64 r)).setCell ⟨w.heap.size, 1, none⟩ (.int .i64 l)).setCell ⟨w.heap.size, 2, none⟩ (.int .i64 s)) :=
            (((Below.refl _ _).setCell (p := ⟨w.heap.size, 0, none⟩) (Nat.le_refl _) _).setCell (p := ⟨w.heap.size, 1, none⟩) (Nat.le_refl _) _).setCell (p := ⟨w.heap.size, 2, none⟩) (Nat.le_refl _) _
          exact ⟨r, l, s, rfl, by omega, by omega, by omega, K4.out.later (Nat.le_refl _) hbl, Cur.later C0.out K4.out C4.out (Nat.le_refl _) hbl⟩
/-- A draw's header, behind Below. -/
def HdrBel (w : World) (e : Ending) (w' : World) : Prop :=
  ∃ r l s : Int, e = .returned (.agg #[.int .i64 r, .int .i64 l, .int .i64 s]) ∧ (-1 ≤ r ∧ r ≤ 3) ∧ (-1 ≤ l ∧ l ≤ 121) ∧ (0 ≤ s ∧ s ≤ 128) ∧ Below w.heap.size w w'
theorem keep_bel {w w1 w2 : World} {B : Nat} (h : Below B w w1) (hB : B ≤ w1.heap.size) (k : Keep w1.heap.size w1 w2) : Below B w w2 :=
  h.trans ⟨k.os, k.tape, k.output, k.size, fun j hj => k.block j (by omega) (by omega)⟩
end Go.Proofs.YtdelpepepbkjmaaGreatDoor.draw
end

section
namespace Go.Proofs.YtdelpepepbkjmaaGreatDoor.draw
open Go.RowKit sl harn phs phm
set_option linter.unusedVariables false

/-- Bytes, exactly as many as asked for. -/
def AllPost (N : Int) (p : Nat) (a : Option Addr) (len cap : Nat) (w : World) (e : Ending) (w' : World) : Prop :=
  ∃ A n c zs, e = .returned (.slice A n c) ∧ n = N.toNat ∧ Ow 5 .u8 w' w.heap.size w'.heap.size A n c zs ∧ Keep p w w' ∧ Cur w' p a len cap
set_option maxRecDepth 100000 in
theorem bytesN (N : Int) (hN : N ≤ 1000) (w : World) (p : Nat) (a : Option Addr) (len cap : Nat) (hc : Cur w p a len cap) :
    Calls Tryz.prog 27 #[.pointer (some ⟨p, 0, none⟩), .int .i64 N] w (AllPost N p a len cap w) := by
  obtain ⟨i0, hi0, hz0, hz1, hz2⟩ := info_parts u8Info
  have C0 := Lib.hid hc
  have P0 := Lib.hid hc.lt
  have HZ := Lib.hid (And.intro hi0 (And.intro hz0 (And.intro hz1 hz2)))
  clear hc hi0 hz0 hz1 hz2
  go_enter Tryz.func27, Tryz.ntmps27
  go_wp2
  go_loopw [5, 6] (fun v i wr => ∃ k : Nat, i = .int .i64 k ∧ k ≤ N.toNat ∧ Drawing w wr p a len cap k v) (fun _ i _ => (N - intOf i).toNat)
  case atStart => exact ⟨0, rfl, by omega, _, _, [], rfl, (Ow.empty 5 .u8 w).up, (Keep.refl p w).alloc _, C0.out.alloc _⟩
  case round =>
    obtain ⟨k, rfl, hk, B, c, zs, rfl, ho, hkp, hcu⟩ := hrel
    have HO := Lib.hid ho
    have HK := Lib.hid hkp
    have HC := Lib.hid hcu
    clear ho hkp hcu
    by_cases hlt : (k : Int) < N
    · go_wp2_with (first
        | (go_at_call 48; refine (byte _ p a len cap HC.out).mono ?_; rintro e w1 ⟨x, rfl, hx0, hx1, hk1, hc1⟩; have HO1 := Lib.hid (ow_keep HO.out hk1 P0.out); have HX := Lib.hid (show (Lit.int .u8 x).wf = true from WalkArith.wf_u8 (by omega)); have HC1 := Lib.hid hc1; have HK1 := Lib.hid (HK.out.trans hk1); (have hs1 : w.heap.size ≤ w1.heap.size := HK1.out.size); clear hk1 hc1 HC HO HK)
        | (at_builtin; refine wpList_app _ rfl _ _ 22 rfl 5 i0 _ .u8 Tryz.underlying22 HZ.out.1 HZ.out.2.1 HZ.out.2.2.1 (by rw [HZ.out.2.2.2]; omega) rfl rfl rfl (HO1.out.alloc _) (Rd.one .u8 _ _ _ HX.out) (by omega) (by simp; omega) ?_; intro A1 cap1 w3 ho hb1; have HO3 := Lib.hid ho; have HB := Lib.hid (cur_then C0.out.1 P0.out HK1.out HC1.out (below_push' hs1 hb1)); clear ho hb1))
      go_roundw
      case rel => exact ⟨k + 1, by go_num, by omega, A1, cap1, zs ++ [x], rfl, HO3.out, HB.out.1, HB.out.2⟩
      case measure => simp [intOf]; omega
    · go_wp2
      go_ret
      exact ⟨_, _, _, zs, rfl, by omega, HO.out, HK.out, HC.out⟩

/-- A header and bytes. -/
def TxDraw (w : World) (e : Ending) (w' : World) : Prop :=
  ∃ (r l s : Int) (A : Option Addr) (n c : Nat) (zs : List Int), e = .returned (.tuple #[.agg #[.int .i64 r, .int .i64 l, .int .i64 s], .slice A n c]) ∧ (-1 ≤ r ∧ r ≤ 3) ∧ (-1 ≤ l ∧ l ≤ 121) ∧ (0 ≤ s ∧ s ≤ 128) ∧ n ≤ 121 ∧ Ow 5 .u8 w' w.heap.size w'.heap.size A n c zs ∧ Below w.heap.size w w'
theorem tx_draw {w W : World} {r l s : Int} {A : Option Addr} {n c lo hi : Nat} {zs : List Int} (hr : -1 ≤ r ∧ r ≤ 3) (hl : -1 ≤ l ∧ l ≤ 121) (hs : 0 ≤ s ∧ s ≤ 128) (hn : n ≤ 121) (ho : Ow 5 .u8 W lo hi A n c zs) (hlo : w.heap.size < lo) (hb : Below w.heap.size w W) :
    TxDraw w (.returned (.tuple #[.agg #[.int .i64 r, .int .i64 l, .int .i64 s], .slice A n c])) (((W.setCell ⟨w.heap.size, 0, none⟩ (.int .i64 r)).setCell ⟨w.heap.size, 1, none⟩ (.int .i64 l)).setCell ⟨w.heap.size, 2, none⟩ (.int .i64 s)) := by
  have oth : ∀ {W : World} (q : Addr) (v : Value), q.block < lo → Ow 5 .u8 W lo hi A n c zs → Ow 5 .u8 (W.setCell q v) lo hi A n c zs := fun q v hq h =>
    h.same (by simp [World.setCell]) fun b hb _ => Below.heap_setCell _ _ _ _ (by omega)
  exact ⟨r, l, s, A, n, c, zs, rfl, hr, hl, hs, hn, ((oth ⟨w.heap.size, 2, none⟩ _ hlo (oth ⟨w.heap.size, 1, none⟩ _ hlo (oth ⟨w.heap.size, 0, none⟩ _ hlo ho))).down (Nat.le_of_lt hlo)).up,
    ((hb.setCell (p := ⟨w.heap.size, 0, none⟩) (Nat.le_refl _) _).setCell (p := ⟨w.heap.size, 1, none⟩) (Nat.le_refl _) _).setCell (p := ⟨w.heap.size, 2, none⟩) (Nat.le_refl _) _⟩
set_option maxRecDepth 100000 in
set_option maxHeartbeats 4000000 in
theorem drawTx (w : World) (a : Option Addr) (len cap : Nat) (hc : Code w w.heap.size a len) :
    Calls Tryz.prog 7 #[.slice a len cap] w (TxDraw w) := by
  have C0 := Lib.hid hc
  clear hc
  go_enter Tryz.func7, Tryz.ntmps7
  go_wp2_with fail
  generalize hW : w.alloc (.cells #[.int .i64 0, .int .i64 0, .int .i64 0] 25) = w1
  have B1 := Lib.hid (show Below w.heap.size w w1 by rw [← hW]; exact below_box _ _)
  have C1 := Lib.hid (code_later C0.out B1.out)
  have X1 := Lib.hid (show Box w1 w.heap.size 0 0 0 by rw [← hW]; exact Box.made _ _ _ _)
  clear hW
  (with_reducible refine (new _ a len cap C1.out).mono ?_)
  rintro e w2 ⟨rfl, hk, hs, hc⟩
  have K2 := Lib.hid hk
  have C2 := Lib.hid hc
  have S1 := Lib.hid X1.out.lt
  have S2 := Lib.hid hs
  have X2 := Lib.hid (Box.keep X1.out hk (by have := X1.out.lt; omega))
  clear hk hs hc
  go_wp2_with fail
  (with_reducible refine (anyHdr _ w1.heap.size a len cap C2.out).mono ?_)
  rintro e w3 ⟨r, l, s, rfl, hr, hl, hs, hk, hc⟩
  have HRL := Lib.hid (And.intro hr (And.intro hl hs))
  have K3 := Lib.hid (K2.out.trans hk)
  have C3 := Lib.hid hc
  have X3 := Lib.hid (Box.keep X2.out hk (by have := X1.out.lt; omega))
  have S3 := Lib.hid C3.out.lt
  clear hk hc hr hl hs X1 X2 C2
  obtain ⟨b, hbb⟩ : ∃ b, b = w3.heap.size := ⟨_, rfl⟩
  obtain ⟨w4, hW⟩ : ∃ w4, w4 = w3.alloc (.cells #[.int .i64 r, .int .i64 l, .int .i64 s] 25) := ⟨_, rfl⟩
  have K4 := Lib.hid (show Keep w1.heap.size w1 w4 by rw [hW]; exact K3.out.alloc _)
  have C4 := Lib.hid (show Cur w4 w1.heap.size a len cap by rw [hW]; exact C3.out.alloc _)
  have X4 := Lib.hid (show Box w4 w.heap.size 0 0 0 by rw [hW]; exact X3.out.below (below_box _ _))
  have Y4 := Lib.hid (show Box w4 b r l s by rw [hW, hbb]; exact Box.made _ _ _ _)
  have S4 := Lib.hid (show w1.heap.size < b by rw [hbb]; exact S3.out)
  clear K3 C3 X3 S3
  go_wp2_with fail
  rw [← hW, ← hbb]
  clear hW hbb
  (with_reducible refine (once 6 (by omega) _ w1.heap.size a len cap C4.out).mono ?_)
  rintro e w5 ⟨z, rfl, hk, hc⟩
  have K5 := Lib.hid (K4.out.trans hk)
  have C5 := Lib.hid hc
  have X5 := Lib.hid (Box.keep X4.out hk (by have := S1.out; omega))
  have Y5 := Lib.hid (Box.keep Y4.out hk (by have := S4.out; omega))
  have S5 := Lib.hid (show b < w5.heap.size from Y5.out.lt)
  clear hk hc K4 C4 X4 Y4
  have y0 := Y5.out.c0
  have y1 := Y5.out.c1
  have y2 := Y5.out.c2
  have nb1 : ¬ w.heap.size = b := by have := S1.out; have := S4.out; omega
  have nb2 : ¬ b = w.heap.size := by have := S1.out; have := S4.out; omega
  have C5D := Lib.hid (show Cur w5.drew w1.heap.size a len cap from C5.out)
  have K5D := Lib.hid (Keep.drew K5.out)
  have X5D := Lib.hid (show Box w5.drew w.heap.size 0 0 0 from X5.out)
  have Y5D := Lib.hid (show Box w5.drew b r l s from Y5.out)
  have S5D := Lib.hid (show b < w5.drew.heap.size from S5.out)
  have hl0 := HRL.out.2.1
  cases z with
  | true =>
    go_wp2_with fail
    go_region_held3 (fun w' => w'.cell? ⟨b, 0, none⟩ = some (.int .i64 r) ∧ w'.cell? ⟨b, 1, none⟩ = some (.int .i64 l) ∧ w'.cell? ⟨b, 2, none⟩ = some (.int .i64 s)) (first | exact ⟨y0, y1, y2⟩ | exact ⟨k0, k1, k2⟩ | exact ⟨j0, j1, j2⟩ | exact ⟨(Box.other (Box.other (Box.other Y7.out (q := ⟨w.heap.size, 0, none⟩) nb2 _) (q := ⟨w.heap.size, 1, none⟩) nb2 _) (q := ⟨w.heap.size, 2, none⟩) nb2 _).c0, (Box.other (Box.other (Box.other Y7.out (q := ⟨w.heap.size, 0, none⟩) nb2 _) (q := ⟨w.heap.size, 1, none⟩) nb2 _) (q := ⟨w.heap.size, 2, none⟩) nb2 _).c1, (Box.other (Box.other (Box.other Y7.out (q := ⟨w.heap.size, 0, none⟩) nb2 _) (q := ⟨w.heap.size, 1, none⟩) nb2 _) (q := ⟨w.heap.size, 2, none⟩) nb2 _).c2⟩)
      (first
      | (go_at_call 28; refine (below 6 (by omega) _ w1.heap.size a len cap C5D.out).mono ?_; rintro e w6 ⟨x, rfl, hx0, hx1, hk, hc⟩; have hx2 := hx1 (by omega); have K6 := Lib.hid (K5D.out.trans hk); have C6 := Lib.hid hc; have X6 := Lib.hid (Box.keep X5D.out hk (by have := S1.out; omega)); have Y6 := Lib.hid (Box.keep Y5D.out hk (by have := S4.out; omega)); have S6 := Lib.hid (show b < w6.heap.size from Y6.out.lt); have k0 := Y6.out.c0; have k1 := Y6.out.c1; have k2 := Y6.out.c2; clear hk hc hx1)
      | (go_at_call 27; refine (bytesN x (by omega) _ w1.heap.size a len cap C6.out).mono ?_; rintro e w7 ⟨A, n, c, zs, rfl, hn, ho, hk, hc⟩; have O7 := Lib.hid ho; have N7 := Lib.hid (show n ≤ 121 by omega); have K7 := Lib.hid (K6.out.trans hk); have X7 := Lib.hid (Box.keep X6.out hk (by have := S1.out; omega)); have Y7 := Lib.hid (Box.keep Y6.out hk (by have := S4.out; omega)); have L7 := Lib.hid (show w.heap.size < w6.heap.size by have := S1.out; have := S4.out; have := S6.out; omega); have j0 := Y7.out.c0; have j1 := Y7.out.c1; have j2 := Y7.out.c2; have x0 := X7.out.c0; have x1 := X7.out.c1; have x2 := X7.out.c2; have xf0 := X7.out.free 0; have xf1 := X7.out.free 1; have xf2 := X7.out.free 2; clear hn ho hk hc))
    go_wp2_with fail
    (try simp only [Exit.inBlock, Exit.then])
    refine bodyPost_ret (v := .tuple #[.agg #[.int .i64 r, .int .i64 l, .int .i64 s], .slice A n c]) ?_ rfl ?_
    · rw [results_cell_tmp1 rfl]
      go_simp
    · exact tx_draw HRL.out.1 HRL.out.2.1 HRL.out.2.2 N7.out O7.out L7.out (keep_bel B1.out B1.out.size K7.out)
  | false =>
    go_wp2_with fail
    go_region_held3 (fun w' => w'.cell? ⟨b, 0, none⟩ = some (.int .i64 r) ∧ w'.cell? ⟨b, 1, none⟩ = some (.int .i64 l) ∧ w'.cell? ⟨b, 2, none⟩ = some (.int .i64 s)) (first | exact ⟨y0, y1, y2⟩ | exact ⟨j0, j1, j2⟩ | exact ⟨(Box.other (Box.other (Box.other Y7.out (q := ⟨w.heap.size, 0, none⟩) nb2 _) (q := ⟨w.heap.size, 1, none⟩) nb2 _) (q := ⟨w.heap.size, 2, none⟩) nb2 _).c0, (Box.other (Box.other (Box.other Y7.out (q := ⟨w.heap.size, 0, none⟩) nb2 _) (q := ⟨w.heap.size, 1, none⟩) nb2 _) (q := ⟨w.heap.size, 2, none⟩) nb2 _).c1, (Box.other (Box.other (Box.other Y7.out (q := ⟨w.heap.size, 0, none⟩) nb2 _) (q := ⟨w.heap.size, 1, none⟩) nb2 _) (q := ⟨w.heap.size, 2, none⟩) nb2 _).c2⟩)
      (first
      | (go_at_call 27; refine (bytesN l (by omega) _ w1.heap.size a len cap C5D.out).mono ?_; rintro e w7 ⟨A, n, c, zs, rfl, hn, ho, hk, hc⟩; have O7 := Lib.hid ho; have N7 := Lib.hid (show n ≤ 121 by omega); have K7 := Lib.hid (K5D.out.trans hk); have X7 := Lib.hid (Box.keep X5D.out hk (by have := S1.out; omega)); have Y7 := Lib.hid (Box.keep Y5D.out hk (by have := S4.out; omega)); have L7 := Lib.hid (show w.heap.size < w5.drew.heap.size by have := S1.out; have := S4.out; have := S5D.out; omega); have j0 := Y7.out.c0; have j1 := Y7.out.c1; have j2 := Y7.out.c2; have x0 := X7.out.c0; have x1 := X7.out.c1; have x2 := X7.out.c2; have xf0 := X7.out.free 0; have xf1 := X7.out.free 1; have xf2 := X7.out.free 2; clear hn ho hk hc))
    go_wp2_with fail
    (try simp only [Exit.inBlock, Exit.then])
    refine bodyPost_ret (v := .tuple #[.agg #[.int .i64 r, .int .i64 l, .int .i64 s], .slice A n c]) ?_ rfl ?_
    · rw [results_cell_tmp1 rfl]
      go_simp
    · exact tx_draw HRL.out.1 HRL.out.2.1 HRL.out.2.2 N7.out O7.out L7.out (keep_bel B1.out B1.out.size K7.out)
end Go.Proofs.YtdelpepepbkjmaaGreatDoor.draw
end

section
namespace Go.Proofs.YtdelpepepbkjmaaGreatDoor.harn
open Go.RowKit sl

theorem sameB (zs ys : List Int) (lo hi lo2 hi2 : Nat) (A A2 : Option Addr) (n cap n2 cap2 : Nat) (w : World) (h : Rd .u8 w lo hi A n cap zs) (h2 : Rd .u8 w lo2 hi2 A2 n2 cap2 ys) :
    Calls Tryz.prog 13 #[.slice A n cap, .slice A2 n2 cap2] w (EqPost zs ys w) := by
  have hb := h.cap_
  have hb2 := h2.cap_
  have HR := Lib.hid h
  have HS := Lib.hid h2
  clear h h2
  by_cases hnn : n = n2
  · subst hnn
    go_enter Tryz.func13, Tryz.ntmps13
    go_wp2
    go_loopw [5] (fun i wr => ∃ k m : Nat, i = .int .i64 k ∧ k ≤ n ∧ wr = w.drewN m ∧ ∀ j, j < k → zs.getD j 0 = ys.getD j 0) (fun i _ => n - (intOf i).toNat)
    case atStart => exact ⟨0, 0, rfl, by omega, rfl, fun j h => absurd h (by omega)⟩
    case round =>
      obtain ⟨k, m, rfl, hk, rfl, hall⟩ := hrel
      have HA := Lib.hid hall
      clear hall
      by_cases hlt : k < n
      · obtain ⟨b, off, rfl, h1, h2, hc⟩ := HR.out.at_ hlt
        obtain ⟨b2, off2, rfl, h3, h4, hc2⟩ := HS.out.at_ hlt
        obtain ⟨x, hx⟩ : ∃ x, zs.getD k 0 = x := ⟨_, rfl⟩
        obtain ⟨y, hy⟩ : ∃ y, ys.getD k 0 = y := ⟨_, rfl⟩
        rw [hx] at hc
        rw [hy] at hc2
        have HX := Lib.hid (And.intro hx hy)
        clear hx hy
        have hlt2 : (k : Int) < n := by omega
        by_cases hxy : x = y
        · subst hxy
          go_wp2
          go_quiet (fail)
          go_wp2
          go_roundw
          case rel =>
            refine ⟨k + 1, _, by go_num, by omega, rfl, fun j hj => ?_⟩
            rcases Nat.lt_or_ge j k with hjk | hjk
            · exact HA.out j hjk
            · obtain rfl : j = k := by omega
              rw [HX.out.1, HX.out.2]
          case measure => simp [intOf]; omega
        · have hne : (x == y) = false := by simpa using hxy
          go_wp2
          go_quiet (fail)
          go_wp2
          go_ret
          refine ⟨?_, ⟨rfl, rfl, rfl, Nat.le_refl _, fun _ _ => rfl⟩⟩
          rw [eq_false (ne_at (k := k) (by rw [HX.out.1, HX.out.2]; exact hxy))]; rfl
      · have hlt2 : ¬ (k : Int) < n := by omega
        obtain rfl : k = n := by omega
        go_wp2
        go_ret
        refine ⟨?_, ⟨rfl, rfl, rfl, Nat.le_refl _, fun _ _ => rfl⟩⟩
        rw [eq_true (eq_all HR.out.len HS.out.len HA.out)]; rfl
  · have hne : ¬ (n : Int) = n2 := by omega
    have HN : Hid (¬ zs = ys) := by
      intro e
      have h1 := HR.out.len
      have h2 := HS.out.len
      rw [e] at h1
      omega
    go_enter Tryz.func13, Tryz.ntmps13
    go_wp2
    go_ret
    exact ⟨by rw [eq_false HN.out]; rfl, Below.refl _ _⟩

theorem sameB_yes (zs : List Int) (lo hi lo2 hi2 : Nat) (A A2 : Option Addr) (n cap n2 cap2 : Nat) (w : World) (h : Rd .u8 w lo hi A n cap zs) (h2 : Rd .u8 w lo2 hi2 A2 n2 cap2 zs) :
    Calls Tryz.prog 13 #[.slice A n cap, .slice A2 n2 cap2] w fun e w' => e = .returned (.bool true) ∧ Below w.heap.size w w' :=
  (sameB zs zs lo hi lo2 hi2 A A2 n cap n2 cap2 w h h2).mono fun e w' ⟨he, hb⟩ => ⟨by rw [he, eq_true rfl], hb⟩

end Go.Proofs.YtdelpepepbkjmaaGreatDoor.harn
end
