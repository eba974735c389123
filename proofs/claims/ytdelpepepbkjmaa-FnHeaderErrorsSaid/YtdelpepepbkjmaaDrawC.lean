/- Draws of stage 10: headers, bytes as many as asked for. Condition: the bytes that are drawn from are a slice that came in. -/
import Derived.Test.YtdelpepepbkjmaaPh1
import Derived.Test.YtdelpepepbkjmaaDraw2
import Derived.Test.YtdelpepepbkjmaaDrawB
namespace Go.Proofs.Ytdelpepepbkjmaa.draw
open Go.RowKit sl harn phs

theorem Box.keep {w w' : World} {p b : Nat} {r l s : Int} (h : Box w b r l s) (k : Keep p w w') (hn : b ≠ p) : Box w' b r l s := h.same (k.block b h.lt hn)
theorem Box.set0 {w : World} {b : Nat} {r l s v : Int} (h : Box w b r l s) : Box (w.setCell ⟨b, 0, none⟩ (.int .i64 v)) b v l s := by
  unfold Box at h ⊢
  have hlt := lt_of_block h
  have h' : w.heap[b] = .cells #[.int .i64 r, .int .i64 l, .int .i64 s] 25 (0, 0) := by simpa [Array.getElem?_eq_getElem hlt] using h
  show (w.heap.modify b _)[b]? = _
  rw [Array.getElem?_eq_getElem (by simpa using hlt), Array.getElem_modify_self, h']
  rfl
theorem Box.set1 {w : World} {b : Nat} {r l s v : Int} (h : Box w b r l s) : Box (w.setCell ⟨b, 1, none⟩ (.int .i64 v)) b r v s := by
  unfold Box at h ⊢
  exact set3_1 h
theorem Box.set2 {w : World} {b : Nat} {r l s v : Int} (h : Box w b r l s) : Box (w.setCell ⟨b, 2, none⟩ (.int .i64 v)) b r l v := by
  unfold Box at h ⊢
  exact set3_2 h
theorem Box.other {w : World} {b : Nat} {r l s : Int} (h : Box w b r l s) {q : Addr} (hq : b ≠ q.block) (u : Value) : Box (w.setCell q u) b r l s := h.same (Below.heap_setCell _ _ _ _ hq)
theorem Keep.later {p : Nat} {w w1 w2 : World} (h : Keep p w w1) {B : Nat} (hB : w.heap.size ≤ B) (hb : Below B w1 w2) : Keep p w w2 :=
  ⟨hb.os.trans h.os, hb.tape.trans h.tape, hb.output.trans h.output, Nat.le_trans h.size hb.size, fun j hj hn => (hb.block j (by omega)).trans (h.block j hj hn)⟩
/-- The cursor behind a change above it. -/
theorem Cur.later {w w1 w2 : World} {p B : Nat} {a : Option Addr} {len cap : Nat} (h0 : Cur w p a len cap) (hk : Keep p w w1) (h : Cur w1 p a len cap) (hB : w.heap.size ≤ B) (hb : Below B w1 w2) : Cur w2 p a len cap := by
  have k2 := hk.later hB hb
  have hp := h0.lt
  obtain ⟨-, i, g, hi, hblk⟩ := h
  exact ⟨h0.1.keep k2, i, g, hi, (hb.block p (by omega)).trans hblk⟩
/-- A header in ranges. -/
def HdrPost (r0 r1 l0 l1 s0 s1 : Int) (p : Nat) (a : Option Addr) (len cap : Nat) (w : World) (e : Ending) (w' : World) : Prop :=
  ∃ r l s : Int, e = .returned (.agg #[.int .i64 r, .int .i64 l, .int .i64 s]) ∧ (r0 ≤ r ∧ r ≤ r1) ∧ (l0 ≤ l ∧ l ≤ l1) ∧ (s0 ≤ s ∧ s ≤ s1) ∧ Keep p w w' ∧ Cur w' p a len cap
set_option maxRecDepth 100000 in
theorem hdr (w : World) (p : Nat) (a : Option Addr) (len cap : Nat) (hc : Cur w p a len cap) :
    Calls Try.prog 83 #[.pointer (some ⟨p, 0, none⟩)] w (HdrPost 1 2 0 5 1 127 p a len cap w) := by
  have C0 := Lib.hid hc
  have P0 := Lib.hid hc.lt
  clear hc
  go_enter Try.func83, Try.ntmps83
  go_wp2_with fail
  generalize hW : w.alloc (.cells #[.int .i64 0, .int .i64 0, .int .i64 0] 25) = w1
  have K1 := Lib.hid (show Keep p w w1 by rw [← hW]; exact (Keep.refl p w).alloc _)
  have C1 := Lib.hid (show Cur w1 p a len cap by rw [← hW]; exact C0.out.alloc _)
  have X1 := Lib.hid (show Box w1 w.heap.size 0 0 0 by rw [← hW]; exact Box.made _ _ _ _)
  clear hW
  (with_reducible refine (below 2 (by omega) _ p a len cap C1.out).mono ?_)
  rintro e w2 ⟨x, rfl, hx0, hx1, hk, hc⟩
  have hx2 := hx1 (by omega)
  have K2 := Lib.hid (K1.out.trans hk)
  have C2 := Lib.hid hc
  have X2 := Lib.hid (Box.keep X1.out hk (by have := P0.out; omega))
  clear hk hc hx1 K1 C1 X1
  go_wp2_with fail
  (with_reducible refine (below 6 (by omega) _ p a len cap C2.out).mono ?_)
  rintro e w3 ⟨y, rfl, hy0, hy1, hk, hc⟩
  have hy2 := hy1 (by omega)
  have K3 := Lib.hid (K2.out.trans hk)
  have C3 := Lib.hid hc
  have X3 := Lib.hid (Box.keep X2.out hk (by have := P0.out; omega))
  clear hk hc hy1 K2 C2 X2
  go_wp2_with fail
  (with_reducible refine (below 127 (by omega) _ p a len cap C3.out).mono ?_)
  rintro e w4 ⟨z, rfl, hz0, hz1, hk, hc⟩
  have hz2 := hz1 (by omega)
  have K4 := Lib.hid (K3.out.trans hk)
  have C4 := Lib.hid hc
  have X4 := Lib.hid (Box.keep X3.out hk (by have := P0.out; omega))
  clear hk hc hz1 K3 C3 X3
  obtain ⟨r, hr⟩ : ∃ r, 1 + x = r := ⟨_, rfl⟩
  obtain ⟨s, hs⟩ : ∃ s, 1 + z = s := ⟨_, rfl⟩
  have e1 : IntKind.i64.wrap r = r := IntWalk.i64_in _ (by omega)
  have e2 : IntKind.i64.wrap s = s := IntWalk.i64_in _ (by omega)
  have f0 := X4.out.free 0
  have f1 := X4.out.free 1
  have f2 := X4.out.free 2
  have c0 := X4.out.c0
  have c1 := X4.out.c1
  have c2 := X4.out.c2
  go_wp2_with fail
  (try simp only [Exit.inBlock, Exit.then])
  refine bodyPost_ret (v := .agg #[.int .i64 r, .int .i64 y, .int .i64 s]) ?_ rfl ?_
  · rw [results_cell1 rfl]
    go_simp
  · have hbl : Below w.heap.size w4 (((w4.setCell ⟨w.heap.size, 0, none⟩ (.int .i64 r)).setCell ⟨w.heap.size, 1, none⟩ (.int .i64 y)).setCell ⟨w.heap.size, 2, none⟩ (.int .i64 s)) :=
      (((Below.refl _ _).setCell (p := ⟨w.heap.size, 0, none⟩) (Nat.le_refl _) _).setCell (p := ⟨w.heap.size, 1, none⟩) (Nat.le_refl _) _).setCell (p := ⟨w.heap.size, 2, none⟩) (Nat.le_refl _) _
    exact ⟨r, y, s, rfl, by omega, by omega, by omega, K4.out.later (Nat.le_refl _) hbl, Cur.later C0.out K4.out C4.out (Nat.le_refl _) hbl⟩
set_option maxRecDepth 100000 in
set_option maxHeartbeats 4000000 in
theorem anyHdr (w : World) (p : Nat) (a : Option Addr) (len cap : Nat) (hc : Cur w p a len cap) :
    Calls Try.prog 63 #[.pointer (some ⟨p, 0, none⟩)] w (HdrPost (-1) 3 (-1) 121 0 128 p a len cap w) := by
  have C0 := Lib.hid hc
  have P0 := Lib.hid hc.lt
  clear hc
  go_enter Try.func63, Try.ntmps63
  go_wp2_with fail
  generalize hW : w.alloc (.cells #[.int .i64 0, .int .i64 0, .int .i64 0] 25) = w1
  have K1 := Lib.hid (show Keep p w w1 by rw [← hW]; exact (Keep.refl p w).alloc _)
  have C1 := Lib.hid (show Cur w1 p a len cap by rw [← hW]; exact C0.out.alloc _)
  have X1 := Lib.hid (show Box w1 w.heap.size 0 0 0 by rw [← hW]; exact Box.made _ _ _ _)
  clear hW
  (with_reducible refine (hdr _ p a len cap C1.out).mono ?_)
  rintro e w2 ⟨r, l, s, rfl, hr, hl, hs, hk, hc⟩
  have K2 := Lib.hid (K1.out.trans hk)
  have X2 := Lib.hid (Box.keep X1.out hk (by have := P0.out; omega))
  have C2 := Lib.hid hc
  clear hk hc K1 C1 X1
  obtain ⟨b, hb⟩ : ∃ b, w2.heap.size = b := ⟨_, rfl⟩
  have S3 := Lib.hid (show w.heap.size < b by rw [← hb]; exact X2.out.lt)
  go_wp2_with fail
  generalize hW : w2.alloc (.cells #[.int .i64 r, .int .i64 l, .int .i64 s] 25) = w3
  have K3 := Lib.hid (show Keep p w w3 by rw [← hW]; exact K2.out.alloc _)
  have C3 := Lib.hid (show Cur w3 p a len cap by rw [← hW]; exact C2.out.alloc _)
  have X3 := Lib.hid (show Box w3 w.heap.size 0 0 0 by rw [← hW]; exact X2.out.below (below_box _ _))
  have Y3 := Lib.hid (show Box w3 b r l s by rw [← hW, ← hb]; exact Box.made _ _ _ _)
  clear hW hb K2 C2 X2
  (with_reducible refine (below 8 (by omega) _ p a len cap C3.out).mono ?_)
  rintro e w4 ⟨x, rfl, hx0, hx1, hk, hc⟩
  have K4 := Lib.hid (K3.out.trans hk)
  have C4 := Lib.hid hc
  have X4 := Lib.hid (Box.keep X3.out hk (by have := P0.out; omega))
  have Y4 := Lib.hid (Box.keep Y3.out hk (by have := P0.out; have := S3.out; omega))
  clear hk hc hx1 K3 C3 X3 Y3
  by_cases h0 : x = 0
  · subst h0
    go_wp2_with fail
    (with_reducible refine (pickIn (-1) 3 3 (by omega) (by omega) _ p a len cap C4.out #[.int .i64 (-1), .int .i64 0, .int .i64 3] rfl (by decide)).mono ?_)
    rintro e w5 ⟨v, rfl, hv0, hv1, hk, hc⟩
    have K5 := Lib.hid (K4.out.trans hk)
    have C5 := Lib.hid hc
    have X5 := Lib.hid (Box.keep X4.out hk (by have := P0.out; omega))
    have Y5 := Lib.hid (Box.keep Y4.out hk (by have := P0.out; have := S3.out; omega))
    have fy := Y5.out.free 0
    have y0 := Y5.out.c0
    have y1 := Y5.out.c1
    have y2 := Y5.out.c2
    have x0 := X5.out.c0
    have x1 := X5.out.c1
    have x2 := X5.out.c2
    have f0 := X5.out.free 0
    have f1 := X5.out.free 1
    have f2 := X5.out.free 2
    have nb1 : ¬ w.heap.size = b := by have := S3.out; omega
    have nb2 : ¬ b = w.heap.size := by have := S3.out; omega
    have BB := Lib.hid (show Below w.heap.size w5 (w5.setCell ⟨b, 0, none⟩ (.int .i64 v)) from (Below.refl _ _).setCell (p := ⟨b, 0, none⟩) (Nat.le_of_lt S3.out) _)
    have K6 := Lib.hid (K5.out.later (Nat.le_refl _) BB.out)
    have C6 := Lib.hid (Cur.later C0.out K5.out C5.out (Nat.le_refl _) BB.out)
    clear hk hc K5 C5
    go_wp2_with fail
    (try simp only [Exit.inBlock, Exit.then])
    refine bodyPost_ret (v := .agg #[.int .i64 v, .int .i64 l, .int .i64 s]) ?_ rfl ?_
    · rw [results_cell1 rfl]
      go_simp
    · have hbl : Below w.heap.size (w5.setCell ⟨b, 0, none⟩ (.int .i64 v)) ((((w5.setCell ⟨b, 0, none⟩ (.int .i64 v)).setCell ⟨w.heap.size, 0, none⟩ (.int .i64 v)).setCell ⟨w.heap.size, 1, none⟩ (.int .i64 l)).setCell ⟨w.heap.size, 2, none⟩ (.int .i64 s)) :=
        (((Below.refl _ _).setCell (p := ⟨w.heap.size, 0, none⟩) (Nat.le_refl _) _).setCell (p := ⟨w.heap.size, 1, none⟩) (Nat.le_refl _) _).setCell (p := ⟨w.heap.size, 2, none⟩) (Nat.le_refl _) _
      exact ⟨v, l, s, rfl, by omega, by omega, by omega, K6.out.later (Nat.le_refl _) hbl, Cur.later C0.out K6.out C6.out (Nat.le_refl _) hbl⟩
  · by_cases h1 : x = 1
    · subst h1
      go_wp2_with fail
      (with_reducible refine (pickIn (-1) 121 3 (by omega) (by omega) _ p a len cap C4.out #[.int .i64 (-1), .int .i64 120, .int .i64 121] rfl (by decide)).mono ?_)
      rintro e w5 ⟨v, rfl, hv0, hv1, hk, hc⟩
      have K5 := Lib.hid (K4.out.trans hk)
      have C5 := Lib.hid hc
      have X5 := Lib.hid (Box.keep X4.out hk (by have := P0.out; omega))
      have Y5 := Lib.hid (Box.keep Y4.out hk (by have := P0.out; have := S3.out; omega))
      have fy := Y5.out.free 1
      have y0 := Y5.out.c0
      have y1 := Y5.out.c1
      have y2 := Y5.out.c2
      have x0 := X5.out.c0
      have x1 := X5.out.c1
      have x2 := X5.out.c2
      have f0 := X5.out.free 0
      have f1 := X5.out.free 1
      have f2 := X5.out.free 2
      have nb1 : ¬ w.heap.size = b := by have := S3.out; omega
      have nb2 : ¬ b = w.heap.size := by have := S3.out; omega
      have BB := Lib.hid (show Below w.heap.size w5 (w5.setCell ⟨b, 1, none⟩ (.int .i64 v)) from (Below.refl _ _).setCell (p := ⟨b, 1, none⟩) (Nat.le_of_lt S3.out) _)
      have K6 := Lib.hid (K5.out.later (Nat.le_refl _) BB.out)
      have C6 := Lib.hid (Cur.later C0.out K5.out C5.out (Nat.le_refl _) BB.out)
      clear hk hc K5 C5
      go_wp2_with fail
      (try simp only [Exit.inBlock, Exit.then])
      refine bodyPost_ret (v := .agg #[.int .i64 r, .int .i64 v, .int .i64 s]) ?_ rfl ?_
      · rw [results_cell1 rfl]
        go_simp
      · have hbl : Below w.heap.size (w5.setCell ⟨b, 1, none⟩ (.int .i64 v)) ((((w5.setCell ⟨b, 1, none⟩ (.int .i64 v)).setCell ⟨w.heap.size, 0, none⟩ (.int .i64 r)).setCell ⟨w.heap.size, 1, none⟩ (.int .i64 v)).setCell ⟨w.heap.size, 2, none⟩ (.int .i64 s)) :=
          (((Below.refl _ _).setCell (p := ⟨w.heap.size, 0, none⟩) (Nat.le_refl _) _).setCell (p := ⟨w.heap.size, 1, none⟩) (Nat.le_refl _) _).setCell (p := ⟨w.heap.size, 2, none⟩) (Nat.le_refl _) _
        exact ⟨r, v, s, rfl, by omega, by omega, by omega, K6.out.later (Nat.le_refl _) hbl, Cur.later C0.out K6.out C6.out (Nat.le_refl _) hbl⟩
    · by_cases h2 : x = 2
      · subst h2
        go_wp2_with fail
        (with_reducible refine (pickIn (0) 128 3 (by omega) (by omega) _ p a len cap C4.out #[.int .i64 0, .int .i64 127, .int .i64 128] rfl (by decide)).mono ?_)
        rintro e w5 ⟨v, rfl, hv0, hv1, hk, hc⟩
        have K5 := Lib.hid (K4.out.trans hk)
        have C5 := Lib.hid hc
        have X5 := Lib.hid (Box.keep X4.out hk (by have := P0.out; omega))
        have Y5 := Lib.hid (Box.keep Y4.out hk (by have := P0.out; have := S3.out; omega))
        have fy := Y5.out.free 2
        have y0 := Y5.out.c0
        have y1 := Y5.out.c1
        have y2 := Y5.out.c2
        have x0 := X5.out.c0
        have x1 := X5.out.c1
        have x2 := X5.out.c2
        have f0 := X5.out.free 0
        have f1 := X5.out.free 1
        have f2 := X5.out.free 2
        have nb1 : ¬ w.heap.size = b := by have := S3.out; omega
        have nb2 : ¬ b = w.heap.size := by have := S3.out; omega
        have BB := Lib.hid (show Below w.heap.size w5 (w5.setCell ⟨b, 2, none⟩ (.int .i64 v)) from (Below.refl _ _).setCell (p := ⟨b, 2, none⟩) (Nat.le_of_lt S3.out) _)
        have K6 := Lib.hid (K5.out.later (Nat.le_refl _) BB.out)
        have C6 := Lib.hid (Cur.later C0.out K5.out C5.out (Nat.le_refl _) BB.out)
        clear hk hc K5 C5
        go_wp2_with fail
        (try simp only [Exit.inBlock, Exit.then])
        refine bodyPost_ret (v := .agg #[.int .i64 r, .int .i64 l, .int .i64 v]) ?_ rfl ?_
        · rw [results_cell1 rfl]
          go_simp
        · have hbl : Below w.heap.size (w5.setCell ⟨b, 2, none⟩ (.int .i64 v)) ((((w5.setCell ⟨b, 2, none⟩ (.int .i64 v)).setCell ⟨w.heap.size, 0, none⟩ (.int .i64 r)).setCell ⟨w.heap.size, 1, none⟩ (.int .i64 l)).setCell ⟨w.heap.size, 2, none⟩ (.int .i64 v)) :=
            (((Below.refl _ _).setCell (p := ⟨w.heap.size, 0, none⟩) (Nat.le_refl _) _).setCell (p := ⟨w.heap.size, 1, none⟩) (Nat.le_refl _) _).setCell (p := ⟨w.heap.size, 2, none⟩) (Nat.le_refl _) _
          exact ⟨r, l, v, rfl, by omega, by omega, by omega, K6.out.later (Nat.le_refl _) hbl, Cur.later C0.out K6.out C6.out (Nat.le_refl _) hbl⟩
      · have y0 := Y4.out.c0
        have y1 := Y4.out.c1
        have y2 := Y4.out.c2
        have x0 := X4.out.c0
        have x1 := X4.out.c1
        have x2 := X4.out.c2
        have f0 := X4.out.free 0
        have f1 := X4.out.free 1
        have f2 := X4.out.free 2
        have q0 : (x == 0) = false := by simpa using h0
        have q1 : (x == 1) = false := by simpa using h1
        have q2 : (x == 2) = false := by simpa using h2
        go_wp2_with fail
        (try simp only [Exit.inBlock, Exit.then])
        refine bodyPost_ret (v := .agg #[.int .i64 r, .int .i64 l, .int .i64 s]) ?_ rfl ?_
        · rw [results_cell1 rfl]
          go_simp
        · have hbl : Below w.heap.size (w4) ((((w4).setCell ⟨w.heap.size, 0, none⟩ (.int .i64 r)).setCell ⟨w.heap.size, 1, none⟩ (.int .i64 l)).setCell ⟨w.heap.size, 2, none⟩ (.int .i64 s)) :=
            (((Below.refl _ _).setCell (p := ⟨w.heap.size, 0, none⟩) (Nat.le_refl _) _).setCell (p := ⟨w.heap.size, 1, none⟩) (Nat.le_refl _) _).setCell (p := ⟨w.heap.size, 2, none⟩) (Nat.le_refl _) _
          exact ⟨r, l, s, rfl, by omega, by omega, by omega, K4.out.later (Nat.le_refl _) hbl, Cur.later C0.out K4.out C4.out (Nat.le_refl _) hbl⟩
/-- A draw's header, behind Below. -/
def HdrBel (w : World) (e : Ending) (w' : World) : Prop :=
  ∃ r l s : Int, e = .returned (.agg #[.int .i64 r, .int .i64 l, .int .i64 s]) ∧ (-1 ≤ r ∧ r ≤ 3) ∧ (-1 ≤ l ∧ l ≤ 121) ∧ (0 ≤ s ∧ s ≤ 128) ∧ Below w.heap.size w w'
theorem keep_bel {w w1 w2 : World} {B : Nat} (h : Below B w w1) (hB : B ≤ w1.heap.size) (k : Keep w1.heap.size w1 w2) : Below B w w2 :=
  h.trans ⟨k.os, k.tape, k.output, k.size, fun j hj => k.block j (by omega) (by omega)⟩
set_option maxRecDepth 100000 in
/-- The draw of a header out of a slice that came in. -/
theorem drawIvh (w : World) (a : Option Addr) (len cap : Nat) (hc : Code w w.heap.size a len) :
    Calls Try.prog 37 #[.slice a len cap] w (HdrBel w) := by
  have C0 := Lib.hid hc
  clear hc
  go_enter Try.func37, Try.ntmps37
  go_wp2_with fail
  generalize hW : w.alloc (.cells #[.int .i64 0, .int .i64 0, .int .i64 0] 25) = w1
  have B1 := Lib.hid (show Below w.heap.size w w1 by rw [← hW]; exact below_box _ _)
  have C1 := Lib.hid (code_later C0.out B1.out)
  have X1 := Lib.hid (show Box w1 w.heap.size 0 0 0 by rw [← hW]; exact Box.made _ _ _ _)
  clear hW
  (with_reducible refine (new _ a len cap C1.out).mono ?_)
  rintro e w2 ⟨rfl, hk, hs, hc⟩
  have K2 := Lib.hid hk
  have C2 := Lib.hid hc
  have X2 := Lib.hid (Box.keep X1.out hk (by have := X1.out.lt; omega))
  clear hk hs hc
  go_wp2_with fail
  (with_reducible refine (anyHdr _ w1.heap.size a len cap C2.out).mono ?_)
  rintro e w3 ⟨r, l, s, rfl, hr, hl, hs, hk, hc⟩
  have K3 := Lib.hid (K2.out.trans hk)
  have B3 := Lib.hid (keep_bel B1.out B1.out.size K3.out)
  have X3 := Lib.hid (Box.keep X2.out hk (by have := X1.out.lt; omega))
  clear hk hc
  have x0 := X3.out.c0
  have x1 := X3.out.c1
  have x2 := X3.out.c2
  have f0 := X3.out.free 0
  have f1 := X3.out.free 1
  have f2 := X3.out.free 2
  go_wp2_with fail
  (try simp only [Exit.inBlock, Exit.then])
  refine bodyPost_ret (v := .agg #[.int .i64 r, .int .i64 l, .int .i64 s]) ?_ rfl ⟨r, l, s, rfl, hr, hl, hs, ?_⟩
  · rw [results_cell1 rfl]
    go_simp
  · exact ((B3.out.setCell (p := ⟨w.heap.size, 0, none⟩) (Nat.le_refl _) _).setCell (p := ⟨w.heap.size, 1, none⟩) (Nat.le_refl _) _).setCell (p := ⟨w.heap.size, 2, none⟩) (Nat.le_refl _) _
set_option maxRecDepth 100000 in
theorem drawEnch (w : World) (a : Option Addr) (len cap : Nat) (hc : Code w w.heap.size a len) :
    Calls Try.prog 12 #[.slice a len cap] w (HdrBel w) := by
  have C0 := Lib.hid hc
  clear hc
  go_enter Try.func12, Try.ntmps12
  go_wp2_with fail
  generalize hW : w.alloc (.cells #[.int .i64 0, .int .i64 0, .int .i64 0] 25) = w1
  have B1 := Lib.hid (show Below w.heap.size w w1 by rw [← hW]; exact below_box _ _)
  have C1 := Lib.hid (code_later C0.out B1.out)
  have X1 := Lib.hid (show Box w1 w.heap.size 0 0 0 by rw [← hW]; exact Box.made _ _ _ _)
  clear hW
  (with_reducible refine (drawIvh _ a len cap C1.out).mono ?_)
  rintro e w3 ⟨r, l, s, rfl, hr, hl, hs, hb⟩
  have B3 := Lib.hid (B1.out.trans (hb.mono B1.out.size))
  have X3 := Lib.hid (X1.out.below hb)
  clear hb
  have x0 := X3.out.c0
  have x1 := X3.out.c1
  have x2 := X3.out.c2
  have f0 := X3.out.free 0
  have f1 := X3.out.free 1
  have f2 := X3.out.free 2
  go_wp2_with fail
  (try simp only [Exit.inBlock, Exit.then])
  refine bodyPost_ret (v := .agg #[.int .i64 r, .int .i64 l, .int .i64 s]) ?_ rfl ⟨r, l, s, rfl, hr, hl, hs, ?_⟩
  · rw [results_cell1 rfl]
    go_simp
  · exact ((B3.out.setCell (p := ⟨w.heap.size, 0, none⟩) (Nat.le_refl _) _).setCell (p := ⟨w.heap.size, 1, none⟩) (Nat.le_refl _) _).setCell (p := ⟨w.heap.size, 2, none⟩) (Nat.le_refl _) _
end Go.Proofs.Ytdelpepepbkjmaa.draw
