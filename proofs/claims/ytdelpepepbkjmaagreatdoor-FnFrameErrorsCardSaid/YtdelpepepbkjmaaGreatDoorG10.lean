/- Merged texts of this seat. DrawE: Draws of frames that were sent: a valid header, as many bytes as it says, two indices of payload symbols. Condition: the bytes that are drawn from are a slice that came in. | Phe: Physical frames with inverted symbols: what a frame of the robust rate gives back when up to two payload symbols were inverted; what is received of a fast frame has the length that was sent. Condition: none (no program). | FerLaw: The law function of frame errors (FnFrameErrors) returns true and leaves what was there. Conditions: the argument is a slice of bytes that came in; package errors' variable errorType holds the handle of the type error. -/
import Derived.Test.YtdelpepepbkjmaaGreatDoorG3
import Derived.Test.YtdelpepepbkjmaaGreatDoorG5
import Derived.Test.YtdelpepepbkjmaaGreatDoorG7
import Derived.Test.YtdelpepepbkjmaaGreatDoorG8
section
namespace Go.Proofs.YtdelpepepbkjmaaGreatDoor.draw
open Go.RowKit sl harn phs phm
set_option linter.unusedVariables false

theorem results_cell_tmp2' {fn : Func} {p u v : Tmp} {ty : TypeId} (h : fn.results = #[.cell p ty, .tmp u, .tmp v]) (tmps : Array Value) (P : Program) (w : World) :
    (results fn tmps).run P w =
      ((asAddr (tmps.getD p undef)).run P w).andThen fun a w₁ => ((loadVar ty a).run P w₁).andThen fun x w₂ => .ok (.tuple #[x, tmps.getD u undef, tmps.getD v undef]) w₂ := by
  simp only [results, h]
  simp [Sem.run_bind, Result.andThen]
theorem results_cell_tmp3 {fn : Func} {p u v x : Tmp} {ty : TypeId} (h : fn.results = #[.cell p ty, .tmp u, .tmp v, .tmp x]) (tmps : Array Value) (P : Program) (w : World) :
    (results fn tmps).run P w =
      ((asAddr (tmps.getD p undef)).run P w).andThen fun a w₁ => ((loadVar ty a).run P w₁).andThen fun y w₂ => .ok (.tuple #[y, tmps.getD u undef, tmps.getD v undef, tmps.getD x undef]) w₂ := by
  simp only [results, h]
  simp [Sem.run_bind, Result.andThen]
/-- A header that is valid, and as many bytes as it says; the frame's symbols are thrown away. -/
def FrDraw (p : Nat) (a : Option Addr) (len cap : Nat) (w : World) (e : Ending) (w' : World) : Prop :=
  ∃ (r l s : Int) (A : Option Addr) (n c : Nat) (zs : List Int) (V : Value), e = .returned (.tuple #[.agg #[.int .i64 r, .int .i64 l, .int .i64 s], .slice A n c, V]) ∧ Hv r l s ∧ (n : Int) = l ∧ n ≤ 5 ∧ Ow 5 .u8 w' w.heap.size w'.heap.size A n c zs ∧ Keep p w w' ∧ Cur w' p a len cap
theorem fr_draw {p : Nat} {a : Option Addr} {len cap : Nat} {w W : World} {r l s : Int} {A : Option Addr} {n c lo hi : Nat} {zs : List Int} {V : Value} (h0 : Cur w p a len cap) (hv : Hv r l s) (hl : (n : Int) = l) (hn : n ≤ 5) (ho : Ow 5 .u8 W lo hi A n c zs) (hlo : w.heap.size < lo) (hk : Keep p w W) (hc : Cur W p a len cap) :
    FrDraw p a len cap w (.returned (.tuple #[.agg #[.int .i64 r, .int .i64 l, .int .i64 s], .slice A n c, V])) (((W.setCell ⟨w.heap.size, 0, none⟩ (.int .i64 r)).setCell ⟨w.heap.size, 1, none⟩ (.int .i64 l)).setCell ⟨w.heap.size, 2, none⟩ (.int .i64 s)) := by
  have oth : ∀ {W : World} (q : Addr) (v : Value), q.block < lo → Ow 5 .u8 W lo hi A n c zs → Ow 5 .u8 (W.setCell q v) lo hi A n c zs := fun q v hq h =>
    h.same (by simp [World.setCell]) fun b hb _ => Below.heap_setCell _ _ _ _ (by omega)
  have hbl : Below w.heap.size W (((W.setCell ⟨w.heap.size, 0, none⟩ (.int .i64 r)).setCell ⟨w.heap.size, 1, none⟩ (.int .i64 l)).setCell ⟨w.heap.size, 2, none⟩ (.int .i64 s)) :=
    (((Below.refl _ _).setCell (p := ⟨w.heap.size, 0, none⟩) (Nat.le_refl _) _).setCell (p := ⟨w.heap.size, 1, none⟩) (Nat.le_refl _) _).setCell (p := ⟨w.heap.size, 2, none⟩) (Nat.le_refl _) _
  exact ⟨r, l, s, A, n, c, zs, V, rfl, hv, hl, hn, ((oth ⟨w.heap.size, 2, none⟩ _ hlo (oth ⟨w.heap.size, 1, none⟩ _ hlo (oth ⟨w.heap.size, 0, none⟩ _ hlo ho))).down (Nat.le_of_lt hlo)).up, hk.later (Nat.le_refl _) hbl, Cur.later h0 hk hc (Nat.le_refl _) hbl⟩
set_option maxRecDepth 100000 in
set_option maxHeartbeats 4000000 in
theorem frame (w : World) (p : Nat) (a : Option Addr) (len cap : Nat) (hc : Cur w p a len cap) :
    Calls Tryz.prog 36 #[.pointer (some ⟨p, 0, none⟩)] w (FrDraw p a len cap w) := by
  have C0 := Lib.hid hc
  have P0 := Lib.hid hc.lt
  clear hc
  go_enter Tryz.func36, Tryz.ntmps36
  go_wp2_with fail
  generalize hW : w.alloc (.cells #[.int .i64 0, .int .i64 0, .int .i64 0] 25) = w1
  have K1 := Lib.hid (show Keep p w w1 by rw [← hW]; exact (Keep.refl p w).alloc _)
  have C1 := Lib.hid (show Cur w1 p a len cap by rw [← hW]; exact C0.out.alloc _)
  have X1 := Lib.hid (show Box w1 w.heap.size 0 0 0 by rw [← hW]; exact Box.made _ _ _ _)
  clear hW
  (with_reducible refine (hdr _ p a len cap C1.out).mono ?_)
  rintro e w2 ⟨r, l, s, rfl, hr, hl, hs, hk, hc⟩
  have HVH := Lib.hid (show Hv r l s from ⟨hr, ⟨hl.1, by omega⟩, hs⟩)
  have HL5 := Lib.hid (show 0 ≤ l ∧ l ≤ 5 from hl)
  have K2 := Lib.hid (K1.out.trans hk)
  have X2 := Lib.hid (Box.keep X1.out hk (by have := P0.out; omega))
  have C2 := Lib.hid hc
  clear hk hc K1 C1 X1 hr hl hs
  obtain ⟨b, hb⟩ : ∃ b, b = w2.heap.size := ⟨_, rfl⟩
  obtain ⟨w3, hW⟩ : ∃ w3, w3 = w2.alloc (.cells #[.int .i64 r, .int .i64 l, .int .i64 s] 25) := ⟨_, rfl⟩
  have S3 := Lib.hid (show w.heap.size < b by rw [hb]; exact X2.out.lt)
  have K3 := Lib.hid (show Keep p w w3 by rw [hW]; exact K2.out.alloc _)
  have C3 := Lib.hid (show Cur w3 p a len cap by rw [hW]; exact C2.out.alloc _)
  have X3 := Lib.hid (show Box w3 w.heap.size 0 0 0 by rw [hW]; exact X2.out.below (below_box _ _))
  have Y3 := Lib.hid (show Box w3 b r l s by rw [hW, hb]; exact Box.made _ _ _ _)
  have y0 := Y3.out.c0
  have y1 := Y3.out.c1
  have y2 := Y3.out.c2
  rw [hW] at y0 y1 y2
  rw [hb] at y0 y1 y2
  clear K2 C2 X2
  go_wp2_with fail
  rw [← hW, ← hb]
  rw [← hW] at y0 y1 y2
  clear hW hb y0 y1 y2
  (with_reducible refine (bytesN l (by have := HL5.out; omega) _ p a len cap C3.out).mono ?_)
  rintro e w4 ⟨A, n, c, zs, rfl, hn, ho, hk, hc⟩
  have HNL := Lib.hid (show (n : Int) = l by have := HL5.out; omega)
  have HN5 := Lib.hid (show n ≤ 5 by have := HL5.out; omega)
  have O4 := Lib.hid ho
  have K4 := Lib.hid (K3.out.trans hk)
  have C4 := Lib.hid hc
  have X4 := Lib.hid (Box.keep X3.out hk (by have := P0.out; omega))
  have Y4 := Lib.hid (Box.keep Y3.out hk (by have := P0.out; have := S3.out; omega))
  have S4 := Lib.hid (show w.heap.size < w3.heap.size from X3.out.lt)
  have hcap := ho.rd.cap_
  clear hn ho hk hc K3 C3 X3 Y3
  have O4D := Lib.hid (show Ow 5 .u8 w4.drew w3.heap.size w4.drew.heap.size A n c zs from O4.out)
  have K4D := Lib.hid (Keep.drew K4.out)
  have C4D := Lib.hid (show Cur w4.drew p a len cap from C4.out)
  have X4D := Lib.hid (show Box w4.drew w.heap.size 0 0 0 from X4.out)
  have Y4D := Lib.hid (show Box w4.drew b r l s from Y4.out)
  have S4D := Lib.hid (show w.heap.size ≤ w4.drew.heap.size from K4.out.size)
  have y0 := Y4.out.c0
  have y1 := Y4.out.c1
  have y2 := Y4.out.c2
  have nb1 : ¬ w.heap.size = b := by have := S3.out; omega
  have nb2 : ¬ b = w.heap.size := by have := S3.out; omega
  go_wp2_with fail
  go_region_held3 (fun w' => w'.cell? ⟨b, 0, none⟩ = some (.int .i64 r) ∧ w'.cell? ⟨b, 1, none⟩ = some (.int .i64 l) ∧ w'.cell? ⟨b, 2, none⟩ = some (.int .i64 s)) (first | exact ⟨y0, y1, y2⟩ | exact ⟨j0, j1, j2⟩ | exact ⟨(Box.other (Box.other (Box.other Y7.out (q := ⟨w.heap.size, 0, none⟩) nb2 _) (q := ⟨w.heap.size, 1, none⟩) nb2 _) (q := ⟨w.heap.size, 2, none⟩) nb2 _).c0, (Box.other (Box.other (Box.other Y7.out (q := ⟨w.heap.size, 0, none⟩) nb2 _) (q := ⟨w.heap.size, 1, none⟩) nb2 _) (q := ⟨w.heap.size, 2, none⟩) nb2 _).c1, (Box.other (Box.other (Box.other Y7.out (q := ⟨w.heap.size, 0, none⟩) nb2 _) (q := ⟨w.heap.size, 1, none⟩) nb2 _) (q := ⟨w.heap.size, 2, none⟩) nb2 _).c2⟩)
    (first
    | (go_at_call 70; refine (specTx r l s zs _ _ A n c _ O4D.out.rd (by have := HN5.out; omega)).mono ?_; rintro e w7 ⟨A7, n7, c7, rfl, ho, hb⟩; have O7 := Lib.hid (O4D.out.below hb); have K7 := Lib.hid (K4D.out.later S4D.out hb); have C7 := Lib.hid (Cur.later C0.out K4D.out C4D.out S4D.out hb); have X7 := Lib.hid (X4D.out.below hb); have Y7 := Lib.hid (Y4D.out.below hb); have j0 := Y7.out.c0; have j1 := Y7.out.c1; have j2 := Y7.out.c2; have x0 := X7.out.c0; have x1 := X7.out.c1; have x2 := X7.out.c2; have xf0 := X7.out.free 0; have xf1 := X7.out.free 1; have xf2 := X7.out.free 2; clear ho hb))
  go_wp2_with fail
  (try simp only [Exit.inBlock, Exit.then])
  refine bodyPost_ret (v := .tuple #[.agg #[.int .i64 r, .int .i64 l, .int .i64 s], .slice A n c, .slice A7 n7 c7]) ?_ rfl ?_
  · rw [results_cell_tmp2' rfl]
    go_simp
  · exact fr_draw C0.out HVH.out HNL.out HN5.out O7.out S4.out K7.out C7.out
/-- A frame that was sent and two indices. -/
def SentDraw (w : World) (e : Ending) (w' : World) : Prop :=
  ∃ (r l s : Int) (A : Option Addr) (n c : Nat) (zs : List Int) (i j : Int), e = .returned (.tuple #[.agg #[.int .i64 r, .int .i64 l, .int .i64 s], .slice A n c, .int .i64 i, .int .i64 j]) ∧ Hv r l s ∧ (n : Int) = l ∧ n ≤ 5 ∧ (0 ≤ i ∧ i < psy r l s) ∧ (0 ≤ j ∧ j < psy r l s) ∧ Ow 5 .u8 w' w.heap.size w'.heap.size A n c zs ∧ Below w.heap.size w w'
theorem sent_draw {w W : World} {r l s i j q : Int} {A : Option Addr} {n c lo hi : Nat} {zs : List Int} (hv : Hv r l s) (hl : (n : Int) = l) (hn : n ≤ 5) (hq : psy r l s = q) (hi0 : 0 ≤ i ∧ i < q) (hj : 0 ≤ j ∧ j < q) (ho : Ow 5 .u8 W lo hi A n c zs) (hlo : w.heap.size < lo) (hb : Below w.heap.size w W) :
    SentDraw w (.returned (.tuple #[.agg #[.int .i64 r, .int .i64 l, .int .i64 s], .slice A n c, .int .i64 i, .int .i64 j])) (((W.setCell ⟨w.heap.size, 0, none⟩ (.int .i64 r)).setCell ⟨w.heap.size, 1, none⟩ (.int .i64 l)).setCell ⟨w.heap.size, 2, none⟩ (.int .i64 s)) := by
  have oth : ∀ {W : World} (q : Addr) (v : Value), q.block < lo → Ow 5 .u8 W lo hi A n c zs → Ow 5 .u8 (W.setCell q v) lo hi A n c zs := fun q v hq h =>
    h.same (by simp [World.setCell]) fun b hb _ => Below.heap_setCell _ _ _ _ (by omega)
  subst hq
  exact ⟨r, l, s, A, n, c, zs, i, j, rfl, hv, hl, hn, hi0, hj, ((oth ⟨w.heap.size, 2, none⟩ _ hlo (oth ⟨w.heap.size, 1, none⟩ _ hlo (oth ⟨w.heap.size, 0, none⟩ _ hlo ho))).down (Nat.le_of_lt hlo)).up,
    ((hb.setCell (p := ⟨w.heap.size, 0, none⟩) (Nat.le_refl _) _).setCell (p := ⟨w.heap.size, 1, none⟩) (Nat.le_refl _) _).setCell (p := ⟨w.heap.size, 2, none⟩) (Nat.le_refl _) _⟩
set_option maxRecDepth 100000 in
set_option maxHeartbeats 4000000 in
theorem drawSent (w : World) (a : Option Addr) (len cap : Nat) (hc : Code w w.heap.size a len) :
    Calls Tryz.prog 14 #[.slice a len cap] w (SentDraw w) := by
  have C0 := Lib.hid hc
  clear hc
  go_enter Tryz.func14, Tryz.ntmps14
  go_wp2_with fail
  generalize hW : w.alloc (.cells #[.int .i64 0, .int .i64 0, .int .i64 0] 25) = w1
  have B1 := Lib.hid (show Below w.heap.size w w1 by rw [← hW]; exact below_box _ _)
  have C1 := Lib.hid (code_later C0.out B1.out)
  have X1 := Lib.hid (show Box w1 w.heap.size 0 0 0 by rw [← hW]; exact Box.made _ _ _ _)
  clear hW
  (with_reducible refine (new _ a len cap C1.out).mono ?_)
  rintro e w2 ⟨rfl, hk, hs, hc⟩
  have K2 := Lib.hid hk
  have C2 := Lib.hid hc
  have S1 := Lib.hid X1.out.lt
  have S2 := Lib.hid hs
  have X2 := Lib.hid (Box.keep X1.out hk (by have := X1.out.lt; omega))
  clear hk hs hc
  go_wp2_with fail
  (with_reducible refine (frame _ w1.heap.size a len cap C2.out).mono ?_)
  rintro e w3 ⟨r, l, s, A, n, c, zs, V, rfl, hv, hl, hn, ho, hk, hc⟩
  have HVH := Lib.hid hv
  have HNL := Lib.hid hl
  have HN5 := Lib.hid hn
  have O3 := Lib.hid ho
  have K3 := Lib.hid (K2.out.trans hk)
  have C3 := Lib.hid hc
  have X3 := Lib.hid (Box.keep X2.out hk (by have := X1.out.lt; omega))
  have S3 := Lib.hid C3.out.lt
  have L2 := Lib.hid (show w.heap.size < w2.heap.size from X2.out.lt)
  have hcap := ho.rd.cap_
  clear hk hc hv hl hn ho X1 X2 C2
  obtain ⟨q, hq⟩ : ∃ q, psy r l s = q := ⟨_, rfl⟩
  have HQ := Lib.hid hq
  have hqin : 27 ≤ q ∧ q ≤ 1956 := by have := psy_in HVH.out; omega
  clear hq
  obtain ⟨b, hbb⟩ : ∃ b, b = w3.heap.size := ⟨_, rfl⟩
  obtain ⟨w4, hW⟩ : ∃ w4, w4 = w3.alloc (.cells #[.int .i64 r, .int .i64 l, .int .i64 s] 25) := ⟨_, rfl⟩
  have K4 := Lib.hid (show Keep w1.heap.size w1 w4 by rw [hW]; exact K3.out.alloc _)
  have C4 := Lib.hid (show Cur w4 w1.heap.size a len cap by rw [hW]; exact C3.out.alloc _)
  have X4 := Lib.hid (show Box w4 w.heap.size 0 0 0 by rw [hW]; exact X3.out.below (below_box _ _))
  have Y4 := Lib.hid (show Box w4 b r l s by rw [hW, hbb]; exact Box.made _ _ _ _)
  have O4 := Lib.hid (show Ow 5 .u8 w4 w2.heap.size w3.heap.size A n c zs by rw [hW]; exact O3.out.alloc _)
  have S4 := Lib.hid (show w1.heap.size < b by rw [hbb]; exact S3.out)
  have y0 := Y4.out.c0
  have y1 := Y4.out.c1
  have y2 := Y4.out.c2
  rw [hW, hbb] at y0 y1 y2
  clear K3 C3 X3 S3 O3
  go_wp2_with fail
  rw [← hW, ← hbb]
  clear hW hbb y0 y1 y2
  (with_reducible refine (specPsy r l s _).mono ?_)
  rw [HQ.out]
  rintro e w5 ⟨rfl, hb⟩
  have K5 := Lib.hid (K4.out.later K4.out.size hb)
  have C5 := Lib.hid (show Cur w5 w1.heap.size a len cap from ⟨C4.out.1.keep (Keep.later (Keep.refl _ _) (Nat.le_refl _) hb), by obtain ⟨i, g, hi, hblk⟩ := C4.out.2; exact ⟨i, g, hi, (hb.block _ C4.out.lt).trans hblk⟩⟩)
  have X5 := Lib.hid (X4.out.below hb)
  have Y5 := Lib.hid (Y4.out.below hb)
  have O5 := Lib.hid (O4.out.below hb)
  clear hb K4 C4 X4 Y4 O4
  go_wp2_with fail
  (with_reducible refine (below q (by omega) _ w1.heap.size a len cap C5.out).mono ?_)
  rintro e w6 ⟨i, rfl, hi0, hi1, hk, hc⟩
  have hi2 := hi1 (by omega)
  have HIQ := Lib.hid (show 0 ≤ i ∧ i < q from ⟨hi0, hi2⟩)
  have K6 := Lib.hid (K5.out.trans hk)
  have C6 := Lib.hid hc
  have X6 := Lib.hid (Box.keep X5.out hk (by have := S1.out; omega))
  have Y6 := Lib.hid (Box.keep Y5.out hk (by have := S4.out; omega))
  have O6 := Lib.hid (ow_keep O5.out hk (by have := S2.out; omega))
  clear hk hc hi1 hi0 hi2 K5 C5 X5 Y5 O5
  have C6D := Lib.hid (show Cur w6.drew w1.heap.size a len cap from C6.out)
  have K6D := Lib.hid (Keep.drew K6.out)
  have X6D := Lib.hid (show Box w6.drew w.heap.size 0 0 0 from X6.out)
  have Y6D := Lib.hid (show Box w6.drew b r l s from Y6.out)
  have O6D := Lib.hid (show Ow 5 .u8 w6.drew w2.heap.size w3.heap.size A n c zs from O6.out)
  have y0 := Y6.out.c0
  have y1 := Y6.out.c1
  have y2 := Y6.out.c2
  have nb1 : ¬ w.heap.size = b := by have := S1.out; have := S4.out; omega
  have nb2 : ¬ b = w.heap.size := by have := S1.out; have := S4.out; omega
  go_wp2_with fail
  go_region_held3 (fun w' => w'.cell? ⟨b, 0, none⟩ = some (.int .i64 r) ∧ w'.cell? ⟨b, 1, none⟩ = some (.int .i64 l) ∧ w'.cell? ⟨b, 2, none⟩ = some (.int .i64 s)) (first | exact ⟨y0, y1, y2⟩ | exact ⟨j0, j1, j2⟩ | exact ⟨(Box.other (Box.other (Box.other Y7.out (q := ⟨w.heap.size, 0, none⟩) nb2 _) (q := ⟨w.heap.size, 1, none⟩) nb2 _) (q := ⟨w.heap.size, 2, none⟩) nb2 _).c0, (Box.other (Box.other (Box.other Y7.out (q := ⟨w.heap.size, 0, none⟩) nb2 _) (q := ⟨w.heap.size, 1, none⟩) nb2 _) (q := ⟨w.heap.size, 2, none⟩) nb2 _).c1, (Box.other (Box.other (Box.other Y7.out (q := ⟨w.heap.size, 0, none⟩) nb2 _) (q := ⟨w.heap.size, 1, none⟩) nb2 _) (q := ⟨w.heap.size, 2, none⟩) nb2 _).c2⟩)
    (first
    | (go_at_call 28; refine (below q (by omega) _ w1.heap.size a len cap C6D.out).mono ?_; rintro e w7 ⟨j, rfl, hx0, hx1, hk, hc⟩; have HJQ := Lib.hid (show 0 ≤ j ∧ j < q from ⟨hx0, hx1 (by omega)⟩); have K7 := Lib.hid (K6D.out.trans hk); have X7 := Lib.hid (Box.keep X6D.out hk (by have := S1.out; omega)); have Y7 := Lib.hid (Box.keep Y6D.out hk (by have := S4.out; omega)); have O7 := Lib.hid (ow_keep O6D.out hk (by have := S2.out; omega)); have j0 := Y7.out.c0; have j1 := Y7.out.c1; have j2 := Y7.out.c2; have x0 := X7.out.c0; have x1 := X7.out.c1; have x2 := X7.out.c2; have xf0 := X7.out.free 0; have xf1 := X7.out.free 1; have xf2 := X7.out.free 2; clear hk hc hx1 hx0))
  go_wp2_with fail
  (try simp only [Exit.inBlock, Exit.then])
  refine bodyPost_ret (v := .tuple #[.agg #[.int .i64 r, .int .i64 l, .int .i64 s], .slice A n c, .int .i64 i, .int .i64 j]) ?_ rfl ?_
  · rw [results_cell_tmp3 rfl]
    go_simp
  · exact sent_draw HVH.out HNL.out HN5.out HQ.out HIQ.out HJQ.out O7.out L2.out (keep_bel B1.out B1.out.size K7.out)
end Go.Proofs.YtdelpepepbkjmaaGreatDoor.draw
end

section
namespace Go.Proofs.YtdelpepepbkjmaaGreatDoor.phm
open Go.RowKit sl bm cvm vit itm scrm crcm crcs
set_option linter.unusedVariables false

theorem dei_set {l : List Int} {n : Nat} (hl : l.length = n) (hn : n ≤ 10000) {j : Nat} (hj : j < n) (v : Int) : ∃ k, k < n ∧ dei (l.set j v) 8 = (dei l 8).set k v := by
  obtain ⟨k, hk, hp⟩ := pos_onto (c := 8) (by omega) hj
  refine ⟨k, hk, ?_⟩
  have ho : Ok (n : Int) ((8 : Nat) : Int) := ⟨by omega, by omega⟩
  have e1 : dei (l.set j v) 8 = back n 8 (l.set j v) := dei_yes (c := 8) (by rw [List.length_set, hl]) ho
  have e2 : dei l 8 = back n 8 l := dei_yes (c := 8) hl ho
  rw [e1, e2]
  refine list_eq (back_len n 8 _) (by rw [List.length_set, back_len]) fun i hi => ?_
  have hpi := pos_lt (c := 8) (by omega) hi
  rw [back_at hi]
  by_cases h : i = k
  · subst h
    rw [hp, List.getD_eq_getElem?_getD, List.getD_eq_getElem?_getD, List.getElem?_set_self (by omega), List.getElem?_set_self (by rw [back_len]; exact hi)]
  · have h2 : ¬ j = pos n 8 i := fun g => h (pos_inj (c := 8) (by omega) hi hk (by rw [hp, g]))
    rw [List.getD_eq_getElem?_getD, List.getD_eq_getElem?_getD, List.getElem?_set_ne h2, List.getElem?_set_ne (by omega), ← List.getD_eq_getElem?_getD, ← List.getD_eq_getElem?_getD, back_at hi]
theorem isb_set {l : List Int} (h : isb l = true) {v : Int} (hv : 0 ≤ v ∧ v ≤ 1) (i : Nat) : isb (l.set i v) = true := (isb_iff _).2 fun z hz => by
  rcases List.mem_or_eq_of_mem_set hz with hz | rfl
  · exact isb_all h z hz
  · exact hv
theorem diff_set_le {a b : List Int} (hl : a.length = b.length) {i : Nat} (hi : i < a.length) (v : Int) : diff a (b.set i v) ≤ diff a b + 1 := by
  rw [diff_set a b i v hi (by omega)]
  split <;> split <;> omega
/-- A robust payload whose code word is off by at most two symbols. -/
theorem unpay_near {r l s : Int} {b zs : List Int} (h : Hv r l s) (h2 : ¬ r = 2) (hb : Byt b) (hl : (b.length : Int) = l) {U : List Int} (hU : dei zs 8 = U) (hUl : U.length = (word s b).length) (hUb : isb U = true) (hd : diff (word s b) U ≤ 2) : unpay r l s zs = (b, true) := by
  have h' := h
  unfold Hv at h'
  have hw := word_len s b
  refine unpay_of hb (by omega) ((undo_slow h2 l zs).trans hU) (by rw [hUl, hw]) ((inr_iff _ _ _).2 fun z hz => by have := isb_all hUb z hz; omega) ?_
  exact (corrects (bits8_isb s b) (bits8_len s b) (by rw [hUl, hw]) (fun z hz => by have := isb_all hUb z hz; omega) rfl hd).1
theorem dei_pay {r s : Int} {b : List Int} (h2 : ¬ r = 2) : dei (pay r s b) 8 = word s b := by rw [pay, pun_slow h2, dei_itl]
theorem pay_slow_len {r s : Int} {b : List Int} (h2 : ¬ r = 2) : (pay r s b).length = (word s b).length := by rw [pay, pun_slow h2, itl_len]
theorem unpay_one {r l s : Int} {b : List Int} (h : Hv r l s) (h2 : ¬ r = 2) (hb : Byt b) (hl : (b.length : Int) = l) {i : Nat} (hi : i < (pay r s b).length) {v : Int} (hv : 0 ≤ v ∧ v ≤ 1) : unpay r l s ((pay r s b).set i v) = (b, true) := by
  have h' := h
  unfold Hv at h'
  have hw := word_len s b
  have hp := pay_slow_len (s := s) (b := b) h2
  obtain ⟨k, hk, e⟩ := dei_set (n := (word s b).length) hp (by omega) (j := i) (by omega) v
  rw [dei_pay h2] at e
  refine unpay_near h h2 hb hl e (List.length_set ..) (isb_set (word_isb s b) hv k) ?_
  have := diff_set_le (a := word s b) (b := word s b) rfl hk v
  rw [diff_self] at this
  omega
theorem unpay_two {r l s : Int} {b : List Int} (h : Hv r l s) (h2 : ¬ r = 2) (hb : Byt b) (hl : (b.length : Int) = l) {i j : Nat} (hi : i < (pay r s b).length) (hj : j < (pay r s b).length) {v u : Int} (hv : 0 ≤ v ∧ v ≤ 1) (hu : 0 ≤ u ∧ u ≤ 1) : unpay r l s (((pay r s b).set i v).set j u) = (b, true) := by
  have h' := h
  unfold Hv at h'
  have hw := word_len s b
  have hp := pay_slow_len (s := s) (b := b) h2
  obtain ⟨k, hk, e⟩ := dei_set (n := (word s b).length) hp (by omega) (j := i) (by omega) v
  obtain ⟨m, hm, e2⟩ := dei_set (l := (pay r s b).set i v) (n := (word s b).length) (by rw [List.length_set]; exact hp) (by omega) (j := j) (by omega) u
  rw [e, dei_pay h2] at e2
  refine unpay_near h h2 hb hl e2 (by rw [List.length_set, List.length_set]) (isb_set (isb_set (word_isb s b) hv k) hu m) ?_
  have g1 := diff_set_le (a := word s b) (b := word s b) rfl hk v
  have g2 := diff_set_le (a := word s b) (b := (word s b).set k v) (by rw [List.length_set]) hm u
  rw [diff_self] at g1
  omega
theorem chk_ok {l p : List Int} (h : chk l = (p, true)) : p.length + 2 = l.length := by
  by_cases g : 2 ≤ l.length ∧ wc (front l) = l
  · rw [chk_yes g.1 g.2] at h
    have : front l = p := congrArg Prod.fst h
    rw [← this, front, List.length_take]; omega
  · rw [chk_no g] at h
    have : false = true := congrArg Prod.snd h
    cases this
theorem bb_exact (l : List Int) : (bb l).1.length = l.length / 8 ∨ (bb l).1 = [] := by
  by_cases h : isb l = true ∧ l.length % 8 = 0
  · left; rw [bb_yes h.1 h.2]; exact bytesOf_len _ _
  · right; rw [bb_no h]
/-- What is received of a fast payload has the length that was sent. -/
theorem unpay_fast {r l s : Int} {zs p : List Int} (h : Hv r l s) (h2 : r = 2) (hz : (zs.length : Int) = psy r l s) (hp : unpay r l s zs = (p, true)) : (p.length : Int) = l := by
  have h' := h
  unfold Hv at h'
  unfold unpay at hp
  have hc := chk_ok hp
  rw [psy_fast h h2] at hz
  have hU : undo r l zs = dep1 (dei zs 8) (cl l).toNat := by rw [undo_fast h2, dep_yes (by rw [cl_eq (by omega)]; omega) (by rw [dei_len]; exact hz)]
  have hUl : (undo r l zs).length = 2 * (8 * (l.toNat + 2) + 2) := by rw [hU, dep1_len, cl_eq (by omega)]; omega
  have hlen : (vit.vit (undo r l zs)).1.length = 8 * (l.toNat + 2) ∨ (vit.vit (undo r l zs)).1 = [] := by
    rcases vit_cases (undo r l zs) with ⟨m, hm, hs⟩ | hno
    · left
      rw [vit_yes hm hs]
      simp only [dec_len]
      have := (inl_nat hm).1
      omega
    · right; rw [vit_no hno]
  have hs := scr_len s (vit.vit (undo r l zs)).1
  rcases bb_exact (scr s (vit.vit (undo r l zs)).1) with e | e
  · rw [e, hs] at hc
    rcases hlen with g | g
    · rw [g] at hc; omega
    · rw [g] at hc; simp at hc
  · rw [e] at hc; simp at hc
/-- A frame whose payload symbols were touched. -/
theorem tx_touch {r l s : Int} {b : List Int} (h : Hv r l s) (hl : (b.length : Int) = l) (i : Nat) (v : Int) : (tx r l s b).set (i + 54) v = enc r l s ++ (pay r s b).set i v := by
  rw [tx_yes h hl, List.set_append_right _ _ (by rw [enc_len h]; omega), enc_len h]
  congr 2
theorem tx_touch2 {r l s : Int} {b : List Int} (h : Hv r l s) (hl : (b.length : Int) = l) (i j : Nat) (v u : Int) : ((tx r l s b).set (i + 54) v).set (j + 54) u = enc r l s ++ ((pay r s b).set i v).set j u := by
  rw [tx_touch h hl, List.set_append_right _ _ (by rw [enc_len h]; omega), enc_len h]
  congr 2
theorem rx_split {r l s : Int} {ys : List Int} (h : Hv r l s) (hl : (ys.length : Int) = psy r l s) :
    dh ((enc r l s ++ ys).take 54) = ((r, l, s), true) ∧ ((enc r l s ++ ys).length : Int) = fsy r l s ∧ (enc r l s ++ ys).drop 54 = ys := by
  have he := enc_len h
  refine ⟨?_, ?_, ?_⟩
  · rw [List.take_append_of_le_length (by omega), List.take_of_length_le (by omega)]; exact dh_enc h
  · rw [List.length_append, he, fsy_yes h]; omega
  · rw [List.drop_append_of_le_length (by omega), List.drop_of_length_le (by omega), List.nil_append]
/-- What is received of a frame whose payload symbols were touched. -/
theorem rx_touch {r l s : Int} {ys p : List Int} (h : Hv r l s) (hl : (ys.length : Int) = psy r l s) (hp : unpay r l s ys = (p, true)) : rx (enc r l s ++ ys) = ((r, l, s), p, 0) := by
  obtain ⟨h1, h2, h3⟩ := rx_split h hl
  exact rx_ok h1 h2 (by rw [h3]; exact hp)
theorem rx_robust1 {r l s : Int} {b : List Int} (h : Hv r l s) (h2 : ¬ r = 2) (hb : Byt b) (hl : (b.length : Int) = l) {i : Nat} (hi : (i : Int) < psy r l s) {v : Int} (hv : 0 ≤ v ∧ v ≤ 1) : rx ((tx r l s b).set (i + 54) v) = ((r, l, s), b, 0) := by
  have hpl := pay_len_yes h hl
  rw [tx_touch h hl]
  exact rx_touch h (by rw [List.length_set]; exact hpl) (unpay_one h h2 hb hl (by omega) hv)
theorem rx_robust2 {r l s : Int} {b : List Int} (h : Hv r l s) (h2 : ¬ r = 2) (hb : Byt b) (hl : (b.length : Int) = l) {i j : Nat} (hi : (i : Int) < psy r l s) (hj : (j : Int) < psy r l s) {v u : Int} (hv : 0 ≤ v ∧ v ≤ 1) (hu : 0 ≤ u ∧ u ≤ 1) : rx (((tx r l s b).set (i + 54) v).set (j + 54) u) = ((r, l, s), b, 0) := by
  have hpl := pay_len_yes h hl
  rw [tx_touch2 h hl]
  exact rx_touch h (by rw [List.length_set, List.length_set]; exact hpl) (unpay_two h h2 hb hl (by omega) (by omega) hv hu)
theorem rx_fast {r l s : Int} {b : List Int} (h : Hv r l s) (h2 : r = 2) (hl : (b.length : Int) = l) (i : Nat) (v : Int) : ∃ p q, rx ((tx r l s b).set (i + 54) v) = ((r, l, s), p, q) ∧ (q = 0 → (p.length : Int) = l) := by
  have hpl := pay_len_yes h hl
  rw [tx_touch h hl]
  obtain ⟨g1, g2, g3⟩ := rx_split h (ys := (pay r s b).set i v) (by rw [List.length_set]; exact hpl)
  obtain ⟨p, z, hu⟩ : ∃ p z, unpay r l s ((pay r s b).set i v) = (p, z) := ⟨_, _, rfl⟩
  cases z with
  | true => exact ⟨p, 0, rx_ok g1 g2 (by rw [g3]; exact hu), fun _ => unpay_fast h h2 (by rw [List.length_set]; exact hpl) hu⟩
  | false => exact ⟨[], 2, rx_sum g1 g2 (p := p) (by rw [g3]; exact hu), fun h0 => by cases h0⟩
theorem pk_mem : ∀ (l : List Int) (k : Nat) (z : Int), z ∈ pk k l → z ∈ l
  | [], k, z, h => by simp [pk] at h
  | x :: l, k, z, h => by
    simp only [pk] at h
    split at h
    · exact List.mem_cons_of_mem _ (pk_mem l _ z h)
    · rcases List.mem_cons.1 h with rfl | h
      · exact List.mem_cons_self ..
      · exact List.mem_cons_of_mem _ (pk_mem l _ z h)
theorem pun_isb {r : Int} {l : List Int} (h : isb l = true) : isb (pun r l) = true := (isb_iff _).2 fun z hz => by
  unfold pun at hz
  split at hz
  · exact isb_all h z (pk_mem l 0 z hz)
  · exact isb_all h z hz
theorem itl_isb {l : List Int} (h : isb l = true) : isb (itl l 8) = true := (isb_iff _).2 fun z hz => by
  by_cases ho : Ok (l.length : Int) 8
  · have e := itl_yes (c := 8) rfl ho
    obtain ⟨p, hp, rfl⟩ := List.getElem_of_mem hz
    rw [itl_len] at hp
    obtain ⟨i, hi, hpi⟩ := pos_onto (c := 8) (by omega) hp
    have g := put_at (c := 8) (by omega) (l := l) rfl l.length (Nat.le_refl _) i hi
    rw [hpi, ← e] at g
    have g2 : (itl l 8).getD p 0 = (itl l 8)[p] := by rw [List.getD_eq_getElem?_getD, List.getElem?_eq_getElem]; rfl
    have g3 : (itl l 8)[p] = l.getD i 0 := g2.symm.trans g
    rw [g3]
    exact isb_getD h i
  · rw [itl_no ho] at hz; exact isb_all h z hz
theorem tx_bits (r l s : Int) (b : List Int) : ∀ z ∈ tx r l s b, 0 ≤ z ∧ z ≤ 1 := fun z hz => by
  unfold tx at hz
  split at hz
  · rcases List.mem_append.1 hz with hz | hz
    · exact enc_bit r l s z hz
    · exact isb_all (itl_isb (pun_isb (word_isb s b))) z hz
  · simp at hz
end Go.Proofs.YtdelpepepbkjmaaGreatDoor.phm
end

section
namespace Go.Proofs.YtdelpepepbkjmaaGreatDoor.ferLaw
open Go.RowKit sl harn phm phs draw
set_option linter.unusedVariables false
theorem wrapS (x : Int) (h : 0 ≤ x ∧ x ≤ 3000) : IntKind.i64.wrap x = x := IntWalk.i64_in _ (by omega)
theorem wrapT (x : Int) (h : 0 ≤ x ∧ x ≤ 3000) : wrap64 x = x := IntWalk.wrap64_in _ (by omega)
set_option maxRecDepth 100000 in
set_option maxHeartbeats 8000000 in
theorem walk (a : Option Addr) (len cap : Nat) (z0 : List Int) (w : World) (r0 : kit.IsRow .u8 w a len cap z0) (hg : asErr.Handle w) :
    Calls Tryz.prog 4 #[.slice a len cap] w fun e w' => e = .returned (.bool true) ∧ Below w.heap.size w w' := by
  have HC := Lib.hid (draw.code_of_row r0)
  have HG := Lib.hid hg
  have hlen : (len : Int) ≤ 9223372036854775807 := by have := HC.out.1; omega
  clear r0 hg
  by_cases hbig : 1048576 < (len : Int)
  · go_enter Tryz.func4, Tryz.ntmps4
    go_wp2
    go_ret
    exact ⟨rfl, Below.refl _ _⟩
  go_enter Tryz.func4, Tryz.ntmps4
  go_wp2_with (go_at_call 6; go_in)
  clear hbig
  go_wp2_with fail
  (with_reducible refine (draw.drawSent _ a len cap HC.out).mono ?_)
  rintro e w1 ⟨r, l, s, A, n, c, zs, i, j, rfl, hv, hl, hn, hi, hj, ho, hb⟩
  have HVH := Lib.hid hv
  have HV := Lib.hid (hv_yes hv)
  have HZL := Lib.hid (show (zs.length : Int) = l by rw [ho.len]; exact hl)
  have HNN := Lib.hid hn
  have hcap := ho.rd.cap_
  have HB := Lib.hid (show crcm.Byt zs from crcs.byt_of_wf ho.wf)
  obtain ⟨q, hq⟩ : ∃ q, fsy r l s = q := ⟨_, rfl⟩
  have HFQ := Lib.hid hq
  have HPQ := Lib.hid (show psy r l s = q - 54 by have := fsy_yes hv; omega)
  have hqin : 81 ≤ q ∧ q ≤ 2010 := by have := psy_in hv; have := HPQ.out; omega
  obtain ⟨i, rfl⟩ := Int.eq_ofNat_of_zero_le hi.1
  obtain ⟨j, rfl⟩ := Int.eq_ofNat_of_zero_le hj.1
  have HI := Lib.hid (show ((i : Nat) : Int) < psy r l s from hi.2)
  have HJ := Lib.hid (show ((j : Nat) : Int) < psy r l s from hj.2)
  have HIQ := Lib.hid (show (i : Int) + 54 < q by have := HI.out; have := HPQ.out; omega)
  have HJQ := Lib.hid (show (j : Int) + 54 < q by have := HJ.out; have := HPQ.out; omega)
  obtain ⟨b, hbb⟩ : ∃ b, b = w1.heap.size := ⟨_, rfl⟩
  obtain ⟨w2, hW⟩ : ∃ w2, w2 = w1.alloc (.cells #[.int .i64 r, .int .i64 l, .int .i64 s] 25) := ⟨_, rfl⟩
  have B2 := Lib.hid (show Below w.heap.size w w2 by rw [hW]; exact hb.alloc hb.size _)
  have X2 := Lib.hid (show Box w2 b r l s by rw [hW, hbb]; exact Box.made _ _ _ _)
  have O2 := Lib.hid (show Ow 5 .u8 w2 w.heap.size w1.heap.size A n c zs by rw [hW]; exact ho.alloc _)
  have S2 := Lib.hid (show w.heap.size ≤ b by rw [hbb]; exact hb.size)
  have L2 := Lib.hid (show w1.heap.size ≤ b by rw [hbb]; exact Nat.le_refl _)
  clear hb ho hn hl hv hq hi hj
  go_wp2_with fail
  rw [← hW, ← hbb]
  clear hW hbb HC
  (with_reducible refine (implTx r l s zs _ _ A n c _ O2.out.rd (by have := HNN.out; omega)).mono ?_)
  rintro e w3 ⟨A3, n3, c3, rfl, ho, hb⟩
  have O3 := Lib.hid ho
  have B3 := Lib.hid (B2.out.trans (hb.mono B2.out.size))
  have X3 := Lib.hid (X2.out.below hb)
  have P3 := Lib.hid (O2.out.below hb)
  have S3 := Lib.hid (show b < w2.heap.size from X2.out.lt)
  have HN3 := Lib.hid (show (n3 : Int) = q by rw [← ho.len, ← HFQ.out]; exact tx_len_yes HVH.out HZL.out)
  have hcap3 := ho.rd.cap_
  clear ho hb B2 X2 O2
  have x0 := X3.out.c0
  have x1 := X3.out.c1
  have x2 := X3.out.c2
  go_wp2_with fail
  (with_reducible refine (specFsy r l s _).mono ?_)
  rw [HFQ.out]
  rintro e w4 ⟨rfl, hb⟩
  have B4 := Lib.hid (B3.out.trans (hb.mono B3.out.size))
  have X4 := Lib.hid (X3.out.below hb)
  have P4 := Lib.hid (P3.out.below hb)
  have O4 := Lib.hid (O3.out.below hb)
  clear hb x0 x1 x2 X3 P3 O3
  obtain ⟨g, rfl, hg⟩ := own.own_some O4.out (by have := HN3.out; omega)
  have hg1 : b < g := by have := S3.out; omega
  have hn3 : ((n3 : Int) == q) = true := by have := HN3.out; simpa using this
  obtain ⟨ki, hki⟩ : ∃ k, k = i + 54 := ⟨_, rfl⟩
  obtain ⟨kj, hkj⟩ : ∃ k, k = j + 54 := ⟨_, rfl⟩
  have hki2 : (i : Int) + 54 = ki := by omega
  have hkj2 : (j : Int) + 54 = kj := by omega
  have hki3 : ki < n3 := by have := HN3.out; have := HIQ.out; omega
  have hkj3 : kj < n3 := by have := HN3.out; have := HJQ.out; omega
  obtain ⟨y, hy⟩ : ∃ y, (tx r l s zs).getD ki 0 = y := ⟨_, rfl⟩
  have hy01 := getD_in (tx_bits r l s zs) ki
  rw [hy] at hy01
  have hcy := own.cell_of O4.out hki3
  rw [hy] at hcy
  have hfy := O4.out.free rfl ki
  obtain ⟨v, hv⟩ : ∃ v, 1 - y = v := ⟨_, rfl⟩
  have bv : 0 ≤ v ∧ v ≤ 3000 := by omega
  have WV := Lib.hid (And.intro (wrapT _ bv) (wrapS _ bv))
  have W1 := Lib.hid (own.ow_set O4.out ki v (WalkArith.wf_i64 (by omega)))
  have B5 := Lib.hid (show Below w.heap.size w (w4.setCell ⟨g, ki, none⟩ (.int .i64 v)) from B4.out.setCell (p := ⟨g, ki, none⟩) (show w.heap.size ≤ g by have := S2.out; omega) _)
  have X5 := Lib.hid (Box.other X4.out (q := ⟨g, ki, none⟩) (show b ≠ g by omega) (.int .i64 v))
  have HV01 := Lib.hid (show 0 ≤ v ∧ v ≤ 1 by omega)
  have x0 := X4.out.c0
  have x1 := X4.out.c1
  have x2 := X4.out.c2
  have hne : ((n3 : Int) != q) = false := by have := HN3.out; simp [this]
  have hki4 : (ki : Int) < n3 := by omega
  have hkj4 : (kj : Int) < n3 := by omega
  have hkb : (ki : Int) ≤ 2010 := by have := HN3.out; omega
  have hkc : (kj : Int) ≤ 2010 := by have := HN3.out; omega
  have bki : 0 ≤ (ki : Int) ∧ (ki : Int) ≤ 3000 := ⟨by omega, by omega⟩
  have bkj : 0 ≤ (kj : Int) ∧ (kj : Int) ≤ 3000 := ⟨by omega, by omega⟩
  have WI := Lib.hid (And.intro (And.intro (wrapT _ bki) (wrapS _ bki)) (And.intro (wrapT _ bkj) (wrapS _ bkj)))
  have HKI := Lib.hid hki
  have HKJ := Lib.hid hkj
  have HN3S := Lib.hid (show n3 ≤ 2010 by have := HN3.out; omega)
  have P5 := Lib.hid (show Ow 5 .u8 (w4.setCell ⟨g, ki, none⟩ (.int .i64 v)) w.heap.size w1.heap.size A n c zs from P4.out.same (by simp [World.setCell]) fun b' hb' hb2 => Below.heap_setCell _ _ _ _ (by have := L2.out; show b' ≠ g; omega))
  have H12 := Lib.hid (show r = 1 ∨ r = 2 by have := HVH.out.1; omega)
  clear hy hki hkj hkb hkc bki bkj
  by_cases hij : ki = kj
  · have hijb : ((ki : Int) != kj) = false := by subst hij; simp
    clear hij
    rcases H12.out with hr | hr
    · subst hr
      have RX := Lib.hid (show rx ((tx 1 l s zs).set ki v) = ((1, l, s), zs, 0) by rw [HKI.out]; exact rx_robust1 HVH.out (by decide) HB.out HZL.out HI.out HV01.out)
      have wv2 := WV.out.2
      have wi2 := WI.out.1.2
      have wj2 := WI.out.2.2
      go_wp2_with fail
      clear wi2 wj2 wv2
      (with_reducible refine (implRx ((tx 1 l s zs).set ki v) _ _ (some ⟨g, 0, none⟩) n3 c3 _ (HG.out.below B5.out) W1.out.rd (by have := HN3S.out; omega)).mono ?_)
      rintro e w6 hpost
      obtain ⟨A6, n6, c6, rfl, ho, hb⟩ := rx_parts RX.out hpost
      obtain ⟨b6, hbb⟩ : ∃ b, b = w6.heap.size := ⟨_, rfl⟩
      obtain ⟨w7, hW⟩ : ∃ x, x = w6.alloc (.cells #[.int .i64 1, .int .i64 l, .int .i64 s] 25) := ⟨_, rfl⟩
      have B6 := Lib.hid (B5.out.trans (hb.mono B5.out.size))
      have X6 := Lib.hid (X5.out.below hb)
      have P6 := Lib.hid (P5.out.below hb)
      have B7 := Lib.hid (show Below w.heap.size w w7 by rw [hW]; exact B6.out.alloc B6.out.size _)
      have X7 := Lib.hid (show Box w7 b 1 l s by rw [hW]; exact X6.out.below (below_box _ _))
      have Y7 := Lib.hid (show Box w7 b6 1 l s by rw [hW, hbb]; exact Box.made _ _ _ _)
      have P7 := Lib.hid (show Ow 5 .u8 w7 w.heap.size w1.heap.size A n c zs by rw [hW]; exact P6.out.alloc _)
      have Q7 := Lib.hid (show Ow 5 .u8 w7 _ _ A6 n6 c6 zs by rw [hW]; exact ho.alloc _)
      have x0 := X7.out.c0
      have x1 := X7.out.c1
      have x2 := X7.out.c2
      have y0 := Y7.out.c0
      have y1 := Y7.out.c1
      have y2 := Y7.out.c2
      rw [hW] at x0 x1 x2 y0 y1 y2
      rw [hbb] at y0 y1 y2
      clear hb hpost ho P6 X6 B6
      go_wp2_with fail
      rw [← hW]
      clear hW
      (with_reducible refine (harn.sameB_yes zs _ _ _ _ A6 A n6 c6 n c _ Q7.out.rd P7.out.rd).mono ?_)
      rintro e w8 ⟨rfl, hb⟩
      have B8 := Lib.hid (B7.out.trans (hb.mono B7.out.size))
      go_wp2_with fail
      go_ret
      exact ⟨rfl, B8.out⟩
    · subst hr
      obtain ⟨p, qq, hrx, hq0⟩ := rx_fast HVH.out rfl HZL.out i v
      have RX := Lib.hid (show rx ((tx 2 l s zs).set ki v) = ((2, l, s), p, qq) by rw [HKI.out]; exact hrx)
      have HQ0 := Lib.hid hq0
      clear hrx hq0
      have wv2 := WV.out.2
      have wi2 := WI.out.1.2
      have wj2 := WI.out.2.2
      go_wp2_with fail
      clear wi2 wj2 wv2
      (with_reducible refine (implRx ((tx 2 l s zs).set ki v) _ _ (some ⟨g, 0, none⟩) n3 c3 _ (HG.out.below B5.out) W1.out.rd (by have := HN3S.out; omega)).mono ?_)
      rintro e w6 hpost
      obtain ⟨A6, n6, c6, rfl, ho, hb⟩ := rx_parts RX.out hpost
      obtain ⟨b6, hbb⟩ : ∃ b, b = w6.heap.size := ⟨_, rfl⟩
      obtain ⟨w7, hW⟩ : ∃ x, x = w6.alloc (.cells #[.int .i64 2, .int .i64 l, .int .i64 s] 25) := ⟨_, rfl⟩
      have B6 := Lib.hid (B5.out.trans (hb.mono B5.out.size))
      have X6 := Lib.hid (X5.out.below hb)
      have P6 := Lib.hid (P5.out.below hb)
      have B7 := Lib.hid (show Below w.heap.size w w7 by rw [hW]; exact B6.out.alloc B6.out.size _)
      have X7 := Lib.hid (show Box w7 b 2 l s by rw [hW]; exact X6.out.below (below_box _ _))
      have Y7 := Lib.hid (show Box w7 b6 2 l s by rw [hW, hbb]; exact Box.made _ _ _ _)
      have P7 := Lib.hid (show Ow 5 .u8 w7 w.heap.size w1.heap.size A n c zs by rw [hW]; exact P6.out.alloc _)
      have Q7 := Lib.hid (show Ow 5 .u8 w7 _ _ A6 n6 c6 p by rw [hW]; exact ho.alloc _)
      have x0 := X7.out.c0
      have x1 := X7.out.c1
      have x2 := X7.out.c2
      have y0 := Y7.out.c0
      have y1 := Y7.out.c1
      have y2 := Y7.out.c2
      rw [hW] at x0 x1 x2 y0 y1 y2
      rw [hbb] at y0 y1 y2
      have HP := Lib.hid Q7.out.len
      clear hb hpost ho P6 X6 B6 P7
      by_cases h0 : qq = 0
      · have hz := HQ0.out h0
        subst h0
        have hnl : ((n6 : Int) == l) = true := by have := HP.out; simp; omega
        clear hz
        go_wp2_with fail
        go_ret
        exact ⟨by first | rfl | (simp only [hnl]; rfl) | simp [hnl], by rw [← hW]; exact B7.out⟩
      · have hq0 : (qq == 0) = false := by simpa using h0
        have hq1 : (qq != 0) = true := by simpa using h0
        clear h0
        go_wp2_with fail
        go_ret
        exact ⟨rfl, by rw [← hW]; exact B7.out⟩
  · have hijb : ((ki : Int) != kj) = true := by simpa using (show ¬ (ki : Int) = kj by omega)
    have hijg : ¬ (⟨g, ki, none⟩ : Addr) = ⟨g, kj, none⟩ := by intro h; injection h with h1 h2; exact hij h2
    clear hij
    rcases H12.out with hr | hr
    · subst hr
      obtain ⟨y', hy'⟩ : ∃ y, ((tx 1 l s zs).set ki v).getD kj 0 = y := ⟨_, rfl⟩
      have hyb := getD_in (bm.isb_all (isb_set ((bm.isb_iff _).2 (tx_bits 1 l s zs)) HV01.out ki)) kj
      rw [hy'] at hyb
      have hcy' := own.cell_of W1.out hkj3
      rw [hy'] at hcy'
      have hfy' := W1.out.free rfl kj
      obtain ⟨u, hu⟩ : ∃ v, 1 - y' = v := ⟨_, rfl⟩
      have bu : 0 ≤ u ∧ u ≤ 3000 := by omega
      have HU01 := Lib.hid (show 0 ≤ u ∧ u ≤ 1 by omega)
      have WU := Lib.hid (And.intro (wrapT _ bu) (wrapS _ bu))
      have W2 := Lib.hid (own.ow_set W1.out kj u (WalkArith.wf_i64 (by omega)))
      have B5b := Lib.hid (show Below w.heap.size w ((w4.setCell ⟨g, ki, none⟩ (.int .i64 v)).setCell ⟨g, kj, none⟩ (.int .i64 u)) from B5.out.setCell (p := ⟨g, kj, none⟩) (show w.heap.size ≤ g by have := S2.out; omega) _)
      have X5b := Lib.hid (Box.other X5.out (q := ⟨g, kj, none⟩) (show b ≠ g by omega) (.int .i64 u))
      have P5b := Lib.hid (show Ow 5 .u8 ((w4.setCell ⟨g, ki, none⟩ (.int .i64 v)).setCell ⟨g, kj, none⟩ (.int .i64 u)) w.heap.size w1.heap.size A n c zs from P5.out.same (by simp [World.setCell]) fun b' hb' hb2 => Below.heap_setCell _ _ _ _ (by have := L2.out; show b' ≠ g; omega))
      have RX := Lib.hid (show rx (((tx 1 l s zs).set ki v).set kj u) = ((1, l, s), zs, 0) by rw [HKI.out, HKJ.out]; exact rx_robust2 HVH.out (by decide) HB.out HZL.out HI.out HJ.out HV01.out HU01.out)
      clear hy' bu
      have wu2 := WU.out.2
      have wv2 := WV.out.2
      have wi2 := WI.out.1.2
      have wj2 := WI.out.2.2
      go_wp2_with fail
      clear wi2 wj2 wv2 wu2
      (with_reducible refine (implRx (((tx 1 l s zs).set ki v).set kj u) _ _ (some ⟨g, 0, none⟩) n3 c3 _ (HG.out.below B5b.out) W2.out.rd (by have := HN3S.out; omega)).mono ?_)
      rintro e w6 hpost
      obtain ⟨A6, n6, c6, rfl, ho, hb⟩ := rx_parts RX.out hpost
      obtain ⟨b6, hbb⟩ : ∃ b, b = w6.heap.size := ⟨_, rfl⟩
      obtain ⟨w7, hW⟩ : ∃ x, x = w6.alloc (.cells #[.int .i64 1, .int .i64 l, .int .i64 s] 25) := ⟨_, rfl⟩
      have B6 := Lib.hid (B5b.out.trans (hb.mono B5b.out.size))
      have X6 := Lib.hid (X5b.out.below hb)
      have P6 := Lib.hid (P5b.out.below hb)
      have B7 := Lib.hid (show Below w.heap.size w w7 by rw [hW]; exact B6.out.alloc B6.out.size _)
      have X7 := Lib.hid (show Box w7 b 1 l s by rw [hW]; exact X6.out.below (below_box _ _))
      have Y7 := Lib.hid (show Box w7 b6 1 l s by rw [hW, hbb]; exact Box.made _ _ _ _)
      have P7 := Lib.hid (show Ow 5 .u8 w7 w.heap.size w1.heap.size A n c zs by rw [hW]; exact P6.out.alloc _)
      have Q7 := Lib.hid (show Ow 5 .u8 w7 _ _ A6 n6 c6 zs by rw [hW]; exact ho.alloc _)
      have x0 := X7.out.c0
      have x1 := X7.out.c1
      have x2 := X7.out.c2
      have y0 := Y7.out.c0
      have y1 := Y7.out.c1
      have y2 := Y7.out.c2
      rw [hW] at x0 x1 x2 y0 y1 y2
      rw [hbb] at y0 y1 y2
      clear hb hpost ho P6 X6 B6
      go_wp2_with fail
      rw [← hW]
      clear hW
      (with_reducible refine (harn.sameB_yes zs _ _ _ _ A6 A n6 c6 n c _ Q7.out.rd P7.out.rd).mono ?_)
      rintro e w8 ⟨rfl, hb⟩
      have B8 := Lib.hid (B7.out.trans (hb.mono B7.out.size))
      go_wp2_with fail
      go_ret
      exact ⟨rfl, B8.out⟩
    · subst hr
      obtain ⟨p, qq, hrx, hq0⟩ := rx_fast HVH.out rfl HZL.out i v
      have RX := Lib.hid (show rx ((tx 2 l s zs).set ki v) = ((2, l, s), p, qq) by rw [HKI.out]; exact hrx)
      have HQ0 := Lib.hid hq0
      clear hrx hq0
      have wv2 := WV.out.2
      have wi2 := WI.out.1.2
      have wj2 := WI.out.2.2
      go_wp2_with fail
      clear wi2 wj2 wv2
      (with_reducible refine (implRx ((tx 2 l s zs).set ki v) _ _ (some ⟨g, 0, none⟩) n3 c3 _ (HG.out.below B5.out) W1.out.rd (by have := HN3S.out; omega)).mono ?_)
      rintro e w6 hpost
      obtain ⟨A6, n6, c6, rfl, ho, hb⟩ := rx_parts RX.out hpost
      obtain ⟨b6, hbb⟩ : ∃ b, b = w6.heap.size := ⟨_, rfl⟩
      obtain ⟨w7, hW⟩ : ∃ x, x = w6.alloc (.cells #[.int .i64 2, .int .i64 l, .int .i64 s] 25) := ⟨_, rfl⟩
      have B6 := Lib.hid (B5.out.trans (hb.mono B5.out.size))
      have X6 := Lib.hid (X5.out.below hb)
      have P6 := Lib.hid (P5.out.below hb)
      have B7 := Lib.hid (show Below w.heap.size w w7 by rw [hW]; exact B6.out.alloc B6.out.size _)
      have X7 := Lib.hid (show Box w7 b 2 l s by rw [hW]; exact X6.out.below (below_box _ _))
      have Y7 := Lib.hid (show Box w7 b6 2 l s by rw [hW, hbb]; exact Box.made _ _ _ _)
      have P7 := Lib.hid (show Ow 5 .u8 w7 w.heap.size w1.heap.size A n c zs by rw [hW]; exact P6.out.alloc _)
      have Q7 := Lib.hid (show Ow 5 .u8 w7 _ _ A6 n6 c6 p by rw [hW]; exact ho.alloc _)
      have x0 := X7.out.c0
      have x1 := X7.out.c1
      have x2 := X7.out.c2
      have y0 := Y7.out.c0
      have y1 := Y7.out.c1
      have y2 := Y7.out.c2
      rw [hW] at x0 x1 x2 y0 y1 y2
      rw [hbb] at y0 y1 y2
      have HP := Lib.hid Q7.out.len
      clear hb hpost ho P6 X6 B6 P7
      by_cases h0 : qq = 0
      · have hz := HQ0.out h0
        subst h0
        have hnl : ((n6 : Int) == l) = true := by have := HP.out; simp; omega
        clear hz
        go_wp2_with fail
        go_ret
        exact ⟨by first | rfl | (simp only [hnl]; rfl) | simp [hnl], by rw [← hW]; exact B7.out⟩
      · have hq0 : (qq == 0) = false := by simpa using h0
        have hq1 : (qq != 0) = true := by simpa using h0
        clear h0
        go_wp2_with fail
        go_ret
        exact ⟨rfl, by rw [← hW]; exact B7.out⟩
end Go.Proofs.YtdelpepepbkjmaaGreatDoor.ferLaw
end
