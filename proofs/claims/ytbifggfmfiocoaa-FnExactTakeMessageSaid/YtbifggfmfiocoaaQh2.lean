/- The harness over queues: copy, comparison, marks. Condition: sizes up to 2^26. -/
import Derived.Test.YtbifggfmfiocoaaQh1
namespace Go.Proofs.Ytbifggfmfiocoaa.mq
open Go.RowKit sl harn bx mrw
set_option linter.unusedVariables false
set_option linter.unusedSimpArgs false

set_option maxRecDepth 100000 in
set_option maxHeartbeats 4000000 in
theorem toQue (ms : List Msg) (d : Int) (A : Option Addr) (n cap lo hi : Nat) (hn : n ≤ 67108864) (hbd : ∀ y ∈ ms, y.2.2.2.length ≤ 67108864) (w : World) (h : Rq msg w lo hi A n cap ms) :
    Calls Try.prog 33 #[qV A n cap d] w (QPost (ms, d) w) := by
  have HR := Lib.hid h
  have HN := Lib.hid hn
  have HBD := Lib.hid hbd
  clear h hn hbd
  go_enter Try.func33, Try.ntmps33
  go_wp2_with fail
  obtain ⟨w0, hW⟩ : ∃ w0, ((w.alloc (.cells #[.slice A n cap, .int .i64 d] 50)).alloc (.cells #[.slice none 0 0, .int .i64 0] 26)).alloc (.cells #[.slice none 0 0, .int .i64 0] 26) = w0 := ⟨_, rfl⟩
  rw [hW]
  have B0 := Lib.hid (show Below w.heap.size w w0 by rw [← hW]; exact (below_box2 w _ _).alloc (by simp; omega) _)
  have S0 := Lib.hid (show Bx 50 w0 w.heap.size #[.slice A n cap, .int .i64 d] by rw [← hW]; exact ((Bx.made _ w _).below (below_box _ _)).below (below_box _ _))
  have Z0 := Lib.hid (show Bx 26 w0 (w.heap.size + 1) #[.slice none 0 0, .int .i64 0] by rw [← hW]; have hh := (Bx.made 26 (w.alloc (.cells #[.slice A n cap, .int .i64 d] 50)) #[.slice none 0 0, .int .i64 0]).below (below_box _ (.cells #[.slice none 0 0, .int .i64 0] 26)); simpa using hh)
  have X0 := Lib.hid (show Bx 26 w0 (w.heap.size + 1 + 1) #[.slice none 0 0, .int .i64 0] by rw [← hW]; have hh := Bx.made 26 ((w.alloc (.cells #[.slice A n cap, .int .i64 d] 50)).alloc (.cells #[.slice none 0 0, .int .i64 0] 26)) #[.slice none 0 0, .int .i64 0]; simpa using hh)
  have R0 := Lib.hid (HR.out.below B0.out)
  clear hW HR
  have s0 : w0.cell? ⟨w.heap.size, 0, none⟩ = some (.slice A n cap) := S0.out.cell 0
  (with_reducible refine (toMsgS ms A n cap _ _ HN.out HBD.out _ R0.out).mono ?_)
  rintro e w1 ⟨A1, n1, c1, rfl, ho, hb⟩
  have O1 := Lib.hid ho
  have B1 := Lib.hid (B0.out.trans (hb.mono B0.out.size))
  have X1 := Lib.hid (X0.out.below hb)
  have Z1 := Lib.hid (Z0.out.below hb)
  have S1 := Lib.hid (S0.out.below hb)
  have L1 := Lib.hid (show w.heap.size + 1 + 1 < w0.heap.size from X0.out.lt)
  clear ho hb B0 X0 Z0 S0 R0 s0
  have s0 : w1.cell? ⟨w.heap.size, 0, none⟩ = some (.slice A n cap) := S1.out.cell 0
  have s1 : w1.cell? ⟨w.heap.size, 1, none⟩ = some (.int .i64 d) := S1.out.cell 1
  have x0 : w1.cell? ⟨w.heap.size + 1 + 1, 0, none⟩ = some (.slice none 0 0) := X1.out.cell 0
  have fx0 : w1.frozen? ⟨w.heap.size + 1 + 1, 0, none⟩ = false := X1.out.free 0
  have x1 : w1.cell? ⟨w.heap.size + 1 + 1, 1, none⟩ = some (.int .i64 0) := X1.out.cell 1
  have fx1 : w1.frozen? ⟨w.heap.size + 1 + 1, 1, none⟩ = false := X1.out.free 1
  have y0 : w1.cell? ⟨w.heap.size + 1, 0, none⟩ = some (.slice none 0 0) := Z1.out.cell 0
  have fy0 : w1.frozen? ⟨w.heap.size + 1, 0, none⟩ = false := Z1.out.free 0
  have y1 : w1.cell? ⟨w.heap.size + 1, 1, none⟩ = some (.int .i64 0) := Z1.out.cell 1
  have fy1 : w1.frozen? ⟨w.heap.size + 1, 1, none⟩ = false := Z1.out.free 1
  obtain ⟨es, he, hoe⟩ := O1.out
  have HOE := Lib.hid hoe
  clear hoe O1
  go_wp2_with fail
  (try simp only [Exit.inBlock, Exit.then])
  refine bodyPost_ret (v := qV A1 n1 c1 d) ?_ rfl ⟨A1, n1, c1, rfl, ⟨es, he, ?_⟩, ?_⟩
  · rw [results_cell1 rfl]
    go_simp
  · exact (HOE.out.same (by simp [World.setCell]) (fun b h1 _ => by have := L1.out; rw [Below.heap_setCell _ _ _ _ (show b ≠ w.heap.size + 1 by omega), Below.heap_setCell _ _ _ _ (show b ≠ w.heap.size + 1 by omega), Below.heap_setCell _ _ _ _ (show b ≠ w.heap.size + 1 + 1 by omega), Below.heap_setCell _ _ _ _ (show b ≠ w.heap.size + 1 + 1 by omega)])).up.down (by have := L1.out; omega)
  · exact ((((B1.out.setCell (p := ⟨w.heap.size + 1 + 1, 0, none⟩) (by show w.heap.size ≤ w.heap.size + 1 + 1; omega) _).setCell (p := ⟨w.heap.size + 1 + 1, 1, none⟩) (by show w.heap.size ≤ w.heap.size + 1 + 1; omega) _).setCell (p := ⟨w.heap.size + 1, 0, none⟩) (by show w.heap.size ≤ w.heap.size + 1; omega) _).setCell (p := ⟨w.heap.size + 1, 1, none⟩) (by show w.heap.size ≤ w.heap.size + 1; omega) _)
set_option maxRecDepth 100000 in
set_option maxHeartbeats 4000000 in
theorem eqMsg_yes (x : Msg) (A : Option Addr) (n c : Nat) (A' : Option Addr) (n' c' : Nat) (lo hi lo2 hi2 : Nat) (w : World) (h : Rd .u8 w lo hi A n c x.2.2.2) (h2 : Rd .u8 w lo2 hi2 A' n' c' x.2.2.2) :
    Calls Try.prog 31 #[mV x A n c, mV x A' n' c'] w (fun e w' => e = .returned (.bool true) ∧ Below w.heap.size w w') := by
  have HB := Lib.hid (below_box2 w (.cells #[.int .i64 x.1, .int .i64 x.2.1, .int .i64 x.2.2.1, .slice A n c] 28) (.cells #[.int .i64 x.1, .int .i64 x.2.1, .int .i64 x.2.2.1, .slice A' n' c'] 28))
  have HR := Lib.hid (h.below HB.out)
  have HS := Lib.hid (h2.below HB.out)
  clear h h2
  go_enter Try.func31, Try.ntmps31
  go_wp2_with fail
  (with_reducible refine (harn.eqByteS_yes x.2.2.2 _ _ _ _ A A' n c n' c' _ HR.out HS.out).mono ?_)
  rintro e w1 ⟨rfl, hb⟩
  have B1 := Lib.hid (HB.out.trans (hb.mono HB.out.size))
  clear hb
  go_wp2_with fail
  go_ret
  exact ⟨rfl, B1.out⟩
set_option maxRecDepth 100000 in
set_option maxHeartbeats 4000000 in
theorem eqMsgS_yes (ms : List Msg) (A A2 : Option Addr) (n cap n2 cap2 lo hi lo2 hi2 : Nat) (w : World) (h : Rq msg w lo hi A n cap ms) (h2 : Rq msg w lo2 hi2 A2 n2 cap2 ms) :
    Calls Try.prog 65 #[.slice A n cap, .slice A2 n2 cap2] w (fun e w' => e = .returned (.bool true) ∧ Below w.heap.size w w') := by
  have hc := h.cap_
  have hc2 := h2.cap_
  have HQ := Lib.hid h
  have HP := Lib.hid h2
  obtain rfl : n = n2 := by rw [← h.len, ← h2.len]
  clear h h2
  go_enter Try.func65, Try.ntmps65
  go_wp2_with fail
  go_loopw [5] (fun i wr => ∃ k : Nat, i = .int .i64 k ∧ k ≤ n ∧ Below w.heap.size w wr) (fun i _ => n - (intOf i).toNat)
  case atStart => exact ⟨0, rfl, by omega, Below.refl _ _⟩
  case round =>
    obtain ⟨k, rfl, hk, hb⟩ := hrel
    have HB := Lib.hid hb
    have HR := Lib.hid (HQ.out.below hb)
    have HS := Lib.hid (HP.out.below hb)
    clear hb
    by_cases hlt : k < n
    · obtain ⟨b, off, y, hA, hy, h1, h2, A', n', c', hd, c0, c1, c2, c3⟩ := at_ HR.out hlt
      obtain ⟨b2, off2, y2, hA2, hy2, h12, h22, A2', n2', c2', hd2, c20, c21, c22, c23⟩ := at_ HS.out hlt
      obtain rfl : y = y2 := Option.some.inj (hy.symm.trans hy2)
      subst hA hA2
      have HD := Lib.hid hd
      have HD2 := Lib.hid hd2
      clear hy hy2 hd hd2
      have hlt2 : (k : Int) < n := by omega
      go_upto_region 6 with fail
      have d0 : ∀ m : Af wr, m.w.cell? ⟨b, off + k * 4, none⟩ = some (.int .i64 y.1) := fun m => by rw [m.below.cell (World.block_lt_of_cell? _ _ c0)]; exact c0
      have d1 : ∀ m : Af wr, m.w.cell? ⟨b, off + k * 4 + 1, none⟩ = some (.int .i64 y.2.1) := fun m => by rw [m.below.cell (World.block_lt_of_cell? _ _ c1)]; exact c1
      have d2 : ∀ m : Af wr, m.w.cell? ⟨b, off + k * 4 + 2, none⟩ = some (.int .i64 y.2.2.1) := fun m => by rw [m.below.cell (World.block_lt_of_cell? _ _ c2)]; exact c2
      have d3 : ∀ m : Af wr, m.w.cell? ⟨b, off + k * 4 + 3, none⟩ = some (.slice A' n' c') := fun m => by rw [m.below.cell (World.block_lt_of_cell? _ _ c3)]; exact c3
      have e0 : ∀ m : Af wr, m.w.cell? ⟨b2, off2 + k * 4, none⟩ = some (.int .i64 y.1) := fun m => by rw [m.below.cell (World.block_lt_of_cell? _ _ c20)]; exact c20
      have e1 : ∀ m : Af wr, m.w.cell? ⟨b2, off2 + k * 4 + 1, none⟩ = some (.int .i64 y.2.1) := fun m => by rw [m.below.cell (World.block_lt_of_cell? _ _ c21)]; exact c21
      have e2 : ∀ m : Af wr, m.w.cell? ⟨b2, off2 + k * 4 + 2, none⟩ = some (.int .i64 y.2.2.1) := fun m => by rw [m.below.cell (World.block_lt_of_cell? _ _ c22)]; exact c22
      have e3 : ∀ m : Af wr, m.w.cell? ⟨b2, off2 + k * 4 + 3, none⟩ = some (.slice A2' n2' c2') := fun m => by rw [m.below.cell (World.block_lt_of_cell? _ _ c23)]; exact c23
      have q0 := Lib.hid (fun m => eqMsg_yes y A' n' c' A2' n2' c2' _ _ _ _ m.w (Af.rd HD.out m) (Af.rd HD2.out m) : ∀ m : Af wr, Calls Try.prog 31 #[mV y A' n' c', mV y A2' n2' c2'] m.w fun e w' => e = .returned (.bool true) ∧ Below m.w.heap.size m.w w')
      clear c0 c1 c2 c3 c20 c21 c22 c23
      refine region_after (by kernel_rfl) (by kernel_rfl) ?_
      repeat (go_big_quiet_step ((go_at_call 31; with_reducible exact Af.call (q0.out _))))
      refine wpQuiet_nil ?_
      intro _ hw'
      obtain ⟨nq, hw''⟩ := hw'
      subst hw''
      clear d0 d1 d2 d3 e0 e1 e2 e3 q0
      obtain ⟨w5, hw5⟩ : ∃ w5, nq.w = w5 := ⟨_, rfl⟩
      have NB := Lib.hid nq.below
      rw [hw5] at NB
      (try rw [hw5])
      clear hw5
      have HB5 := Lib.hid (HB.out.trans (NB.out.mono HB.out.size))
      clear NB nq HB
      go_wp2_with fail
      go_roundw
      case rel => exact ⟨k + 1, by go_num, by omega, HB5.out⟩
      case measure => simp [intOf]; omega
    · have hlt2 : ¬ (k : Int) < n := by omega
      go_wp2_with fail
      go_ret
      exact ⟨rfl, HB.out⟩
set_option maxRecDepth 100000 in
set_option maxHeartbeats 4000000 in
theorem eqQue_yes (ms : List Msg) (d : Int) (A A2 : Option Addr) (n cap n2 cap2 lo hi lo2 hi2 : Nat) (w : World) (h : Rq msg w lo hi A n cap ms) (h2 : Rq msg w lo2 hi2 A2 n2 cap2 ms) :
    Calls Try.prog 34 #[qV A n cap d, qV A2 n2 cap2 d] w (fun e w' => e = .returned (.bool true) ∧ Below w.heap.size w w') := by
  obtain ⟨w0, hW⟩ : ∃ w0, (w.alloc (.cells #[.slice A n cap, .int .i64 d] 26)).alloc (.cells #[.slice A2 n2 cap2, .int .i64 d] 26) = w0 := ⟨_, rfl⟩
  have B0 := Lib.hid (show Below w.heap.size w w0 by rw [← hW]; exact below_box2 _ _ _)
  have X0 := Lib.hid (show Bx 26 w0 w.heap.size #[.slice A n cap, .int .i64 d] by rw [← hW]; exact (Bx.made _ w _).below (below_box _ _))
  have Y0 := Lib.hid (show Bx 26 w0 (w.heap.size + 1) #[.slice A2 n2 cap2, .int .i64 d] by rw [← hW]; have hh := Bx.made 26 (w.alloc (.cells #[.slice A n cap, .int .i64 d] 26)) #[.slice A2 n2 cap2, .int .i64 d]; simpa using hh)
  have HR := Lib.hid (h.below B0.out)
  have HS := Lib.hid (h2.below B0.out)
  have HW := Lib.hid hW
  clear h h2 hW
  go_enter Try.func34, Try.ntmps34
  go_wp2_with fail
  rw [HW.out]
  (with_reducible refine (eqMsgS_yes ms A A2 n cap n2 cap2 _ _ _ _ _ HR.out HS.out).mono ?_)
  rintro e w1 ⟨rfl, hb⟩
  have B1 := Lib.hid (B0.out.trans (hb.mono B0.out.size))
  have X1 := Lib.hid (X0.out.below hb)
  have Y1 := Lib.hid (Y0.out.below hb)
  clear hb
  have x0 : w1.cell? ⟨w.heap.size, 0, none⟩ = some (.slice A n cap) := X1.out.cell 0
  have x1 : w1.cell? ⟨w.heap.size, 1, none⟩ = some (.int .i64 d) := X1.out.cell 1
  have y0 : w1.cell? ⟨w.heap.size + 1, 0, none⟩ = some (.slice A2 n2 cap2) := Y1.out.cell 0
  have y1 : w1.cell? ⟨w.heap.size + 1, 1, none⟩ = some (.int .i64 d) := Y1.out.cell 1
  go_wp2_with fail
  go_ret
  exact ⟨rfl, B1.out⟩
/-- The marks of messages: consecutive numbers. -/
def mk1 (q : Int) (m : Msg) : Msg := (q, q + 1, q + 2, marks .u8 (q + 3) m.2.2.2.length)
def mks : Int → List Msg → List Msg
  | _, [] => []
  | q, m :: r => mk1 q m :: mks (q + 3 + m.2.2.2.length) r
def tot (ms : List Msg) : Int := 3 * (ms.length : Int) + (blk ms : Nat)
theorem tot_snoc (ms : List Msg) (m : Msg) : tot (ms ++ [m]) = tot ms + 3 + m.2.2.2.length := by
  unfold tot
  rw [blk_snoc]
  simp
  omega
theorem tot_nonneg (ms : List Msg) : 0 ≤ tot ms := by unfold tot; omega
theorem tot_cons (m : Msg) (ms : List Msg) : tot (m :: ms) = 3 + m.2.2.2.length + tot ms := by
  unfold tot blk
  simp
  omega
theorem blk_append (a b : List Msg) : blk (a ++ b) = blk a + blk b := by simp [blk]
theorem tot_take (ms : List Msg) (k : Nat) : tot (ms.take k) ≤ tot ms := by
  have h : tot (ms.take k ++ ms.drop k) = tot (ms.take k) + tot (ms.drop k) := by
    unfold tot
    rw [blk_append, List.length_append]
    omega
  have h2 := tot_nonneg (ms.drop k)
  rw [List.take_append_drop] at h
  omega
theorem mks_snoc (m : Msg) : ∀ (l : List Msg) (q : Int), mks q (l ++ [m]) = mks q l ++ [mk1 (q + tot l) m]
  | [], q => by simp [mks, tot, blk]
  | x :: r, q => by
    have e : q + 3 + (x.2.2.2.length : Int) + tot r = q + tot (x :: r) := by rw [tot_cons]; omega
    rw [List.cons_append, mks, mks_snoc m r, mks, e]
    rfl
theorem mks_len : ∀ (l : List Msg) (q : Int), (mks q l).length = l.length
  | [], _ => rfl
  | x :: r, q => by rw [mks, List.length_cons, mks_len r, List.length_cons]
theorem mks_at {ms : List Msg} {j : Nat} {m : Msg} (h : ms[j]? = some m) (q : Int) : (mks q ms)[j]? = some (mk1 (q + tot (ms.take j)) m) := by
  induction ms generalizing j q with
  | nil => simp at h
  | cons x r ih =>
    cases j with
    | zero =>
      have : x = m := by simpa using h
      subst this
      simp [mks, tot, blk]
    | succ j =>
      have h2 : r[j]? = some m := by simpa using h
      rw [mks, List.getElem?_cons_succ, ih h2, List.take_succ_cons, tot_cons]
      congr 2
      omega
/-- What marking the messages leaves. -/
def KPost (ms : List Msg) (w : World) (lo hi : Nat) (A : Option Addr) (n cap : Nat) (q : Int) (e : Ending) (w' : World) : Prop :=
  e = .returned (.int .i64 (q + tot ms)) ∧ Oq msg w' lo hi A n cap (mks q ms) ∧ Tch lo hi w w'
theorem tch_trans {lo hi : Nat} {a b c : World} (h : Tch lo hi a b) (g : Tch lo hi b c) : Tch lo hi a c :=
  ⟨g.os.trans h.os, g.tape.trans h.tape, g.output.trans h.output, Nat.le_trans h.size g.size, fun k hk hd => (g.block k (Nat.lt_of_lt_of_le hk h.size) hd).trans (h.block k hk hd)⟩
theorem tch_set {lo hi b : Nat} {w0 w : World} (h : Tch lo hi w0 w) (hb : lo ≤ b ∧ b < hi) (i : Nat) (v : Value) : Tch lo hi w0 (w.setCell ⟨b, i, none⟩ v) :=
  ⟨h.os, h.tape, h.output, by simpa [World.setCell] using h.size, fun k hk hd => by rw [Below.heap_setCell _ _ _ _ (show k ≠ b by omega)]; exact h.block k hk hd⟩
theorem set_map {es : List (El Msg)} {l r : List Msg} {j : Nat} {m : Msg} (h : es.map (·.x) = l ++ m :: r) (hl : l.length = j) (x' : Msg) (A : Option Addr) (n c : Nat) : (es.set j ⟨x', A, n, c⟩).map (·.x) = l ++ x' :: r := by
  rw [List.map_set, h, List.set_append_right _ _ (by omega), hl, Nat.sub_self]
  rfl
set_option maxRecDepth 100000 in
set_option maxHeartbeats 4000000 in
theorem markMsg (x : Msg) (A : Option Addr) (n c : Nat) (lo hi : Nat) (q : Int) (w : World) (h : Ow 5 .u8 w lo hi A n c x.2.2.2) (hk0 : 0 ≤ q) (hk : q ≤ 1099511627776) (hn : n ≤ 67108864) :
    Calls Try.prog 37 #[mV x A n c, .int .i64 q] w (MarkPost 5 .u8 w lo hi A n c q) := by
  have HR := Lib.hid (h.below (below_box w (.cells #[.int .i64 x.1, .int .i64 x.2.1, .int .i64 x.2.2.1, .slice A n c] 28)))
  have HH := Lib.hid h.hi_
  clear h
  go_enter Try.func37, Try.ntmps37
  go_wp2_with fail
  (with_reducible refine (harn.markByteS x.2.2.2 lo hi A n c q _ HR.out hk0 hk hn).mono ?_)
  rintro e w1 ⟨rfl, ho, ht⟩
  have O1 := Lib.hid ho
  have T1 := Lib.hid (show Tch lo hi w w1 from ⟨ht.os, ht.tape, ht.output, by have := ht.size; simp at this; omega, fun b hb hd => by rw [ht.block b (by simp; omega) hd]; exact heap_alloc_old _ _ hb⟩)
  clear ho ht
  go_wp2_with fail
  go_ret
  exact ⟨rfl, O1.out, T1.out⟩
set_option maxRecDepth 100000 in
set_option maxHeartbeats 4000000 in
theorem heldMsg (x : Msg) (A : Option Addr) (n c : Nat) (lo hi : Nat) (q : Int) (w : World) (h : Rd .u8 w lo hi A n c (marks .u8 q n)) (hk0 : 0 ≤ q) (hk : q ≤ 1099511627776) (hn : n ≤ 67108864) :
    Calls Try.prog 41 #[mV x A n c, .int .i64 q] w (NPost (q + n) w) := by
  have HR := Lib.hid (h.below (below_box w (.cells #[.int .i64 x.1, .int .i64 x.2.1, .int .i64 x.2.2.1, .slice A n c] 28)))
  have hq : ¬ q + n < 0 := by omega
  clear h
  go_enter Try.func41, Try.ntmps41
  go_wp2_with fail
  (with_reducible refine (harn.heldByteS lo hi A n c q _ HR.out hk0 hk hn).mono ?_)
  rintro e w1 ⟨rfl, rfl⟩
  go_wp2_with fail
  go_ret
  exact ⟨rfl, below_box _ _⟩
set_option maxRecDepth 100000 in
set_option maxHeartbeats 4000000 in
theorem markMsgS (ms : List Msg) (A : Option Addr) (n cap lo hi : Nat) (q : Int) (hk0 : 0 ≤ q) (hk : q + tot ms ≤ 1099511627776) (hbd : ∀ y ∈ ms, y.2.2.2.length ≤ 67108864) (w : World) (h : Oq msg w lo hi A n cap ms) :
    Calls Try.prog 68 #[.slice A n cap, .int .i64 q] w (KPost ms w lo hi A n cap q) := by
  obtain ⟨es0, he0, ho0⟩ := h
  have hc := ho0.rq.cap_
  have HL := Lib.hid (show ms.length = n by rw [← he0, List.length_map]; exact ho0.len)
  have HK := Lib.hid (And.intro hk0 hk)
  have HBD := Lib.hid hbd
  clear hk0 hk hbd
  go_enter Try.func68, Try.ntmps68
  go_wp2_with fail
  go_loopw [1, 5] (fun q2 i wr => ∃ (j : Nat) (es : List (El Msg)), i = .int .i64 j ∧ q2 = .int .i64 (q + tot (ms.take j)) ∧ j ≤ n ∧ es.map (·.x) = mks q (ms.take j) ++ ms.drop j ∧ Oe msg wr lo hi A n cap es ∧ Tch lo hi w wr) (fun _ i _ => n - (intOf i).toNat)
  case atStart => exact ⟨0, es0, rfl, by simp [tot, blk], by omega, by simpa [mks] using he0, ho0, Tch.refl _ _ _⟩
  clear ho0 he0
  case round =>
    obtain ⟨j, es, rfl, rfl, hj, hm, ho, ht⟩ := hrel
    obtain ⟨t, hq⟩ : ∃ t, q + tot (ms.take j) = t := ⟨_, rfl⟩
    have hb1 : 0 ≤ t ∧ t ≤ 1099511627776 := by have a1 := HK.out; have a2 := tot_take ms j; have a3 := tot_nonneg (ms.take j); omega
    have HM := Lib.hid hm
    have HO := Lib.hid ho
    have HT := Lib.hid ht
    have HTT := Lib.hid hq
    rw [hq]
    clear hm ho ht hq
    by_cases hlt : j < n
    · have hlt2 : (j : Int) < n := by omega
      have hin : j < ms.length := by rw [HL.out]; exact hlt
      obtain ⟨m, hmm⟩ : ∃ m, ms[j]? = some m := ⟨_, List.getElem?_eq_getElem hin⟩
      have HMJ := Lib.hid hmm
      have HM2 := Lib.hid (show es.map (·.x) = mks q (ms.take j) ++ m :: ms.drop (j + 1) by rw [HM.out, List.drop_eq_getElem_cons hin]; congr 2; exact (List.getElem?_eq_some_iff.1 hmm).2)
      have HLL := Lib.hid (show (mks q (ms.take j)).length = j by rw [mks_len, List.length_take]; omega)
      obtain ⟨e, he, hex⟩ : ∃ e, es[j]? = some e ∧ e.x = m := by
        have h1 : (es.map (·.x))[j]? = some m := by rw [HM2.out, List.getElem?_append_right (by rw [HLL.out]; exact Nat.le_refl _), HLL.out, Nat.sub_self]; rfl
        rw [List.getElem?_map] at h1
        cases hh : es[j]? with
        | none => rw [hh] at h1; cases h1
        | some e => rw [hh] at h1; exact ⟨e, rfl, by simpa using h1⟩
      obtain ⟨g, hA, hg1, hg2, hr⟩ := HO.out.at_ he
      subst hA
      obtain ⟨x, A1, n1, c1⟩ := e
      obtain rfl : x = m := hex
      have hj1 : j < es.length := (List.getElem?_eq_some_iff.1 he).1
      have O1 : Oe msg (wr.setCell ⟨g, j * 4, none⟩ (.int .i64 t)) lo hi (some ⟨g, 0, none⟩) n cap (es.set j ⟨(t, x.2.1, x.2.2.1, x.2.2.2), A1, n1, c1⟩) := HO.out.cell he (t, x.2.1, x.2.2.1, x.2.2.2) (j := 0) (.int .i64 t) (by show 0 < 4; omega) rfl rfl
      have e1 : (es.set j ⟨(t, x.2.1, x.2.2.1, x.2.2.2), A1, n1, c1⟩)[j]? = some ⟨(t, x.2.1, x.2.2.1, x.2.2.2), A1, n1, c1⟩ := List.getElem?_set_self hj1
      have O2 : Oe msg ((wr.setCell ⟨g, j * 4, none⟩ (.int .i64 t)).setCell ⟨g, j * 4 + 1, none⟩ (.int .i64 (t + 1))) lo hi (some ⟨g, 0, none⟩) n cap (es.set j ⟨(t, t + 1, x.2.2.1, x.2.2.2), A1, n1, c1⟩) := by have hh := O1.cell e1 (t, t + 1, x.2.2.1, x.2.2.2) (j := 1) (.int .i64 (t + 1)) (by show 1 < 4; omega) rfl rfl; rw [List.set_set] at hh; exact hh
      have e2 : (es.set j ⟨(t, t + 1, x.2.2.1, x.2.2.2), A1, n1, c1⟩)[j]? = some ⟨(t, t + 1, x.2.2.1, x.2.2.2), A1, n1, c1⟩ := List.getElem?_set_self hj1
      have O3 : Oe msg (((wr.setCell ⟨g, j * 4, none⟩ (.int .i64 t)).setCell ⟨g, j * 4 + 1, none⟩ (.int .i64 (t + 1))).setCell ⟨g, j * 4 + 2, none⟩ (.int .i64 (t + 2))) lo hi (some ⟨g, 0, none⟩) n cap (es.set j ⟨(t, t + 1, t + 2, x.2.2.2), A1, n1, c1⟩) := by have hh := O2.cell e2 (t, t + 1, t + 2, x.2.2.2) (j := 2) (.int .i64 (t + 2)) (by show 2 < 4; omega) rfl rfl; rw [List.set_set] at hh; exact hh
      have e3 : (es.set j ⟨(t, t + 1, t + 2, x.2.2.2), A1, n1, c1⟩)[j]? = some ⟨(t, t + 1, t + 2, x.2.2.2), A1, n1, c1⟩ := List.getElem?_set_self hj1
      obtain ⟨l, r, hl1, hr1, hnar, hback⟩ := O3.part e3
      have HN := Lib.hid hnar
      have HBK := Lib.hid hback
      have HT3 := Lib.hid (tch_set (tch_set (tch_set HT.out ⟨hg1, hg2⟩ (j * 4) (.int .i64 t)) ⟨hg1, hg2⟩ (j * 4 + 1) (.int .i64 (t + 1))) ⟨hg1, hg2⟩ (j * 4 + 2) (.int .i64 (t + 2)))
      have HLN := Lib.hid (show n1 ≤ 67108864 from (show x.2.2.2.length = n1 from hnar.len) ▸ HBD.out x (List.mem_of_getElem? hmm))
      have HLX := Lib.hid (show x.2.2.2.length = n1 from hnar.len)
      have c0 : wr.cell? ⟨g, j * 4, none⟩ = some (.int .i64 x.1) := hr 0 _ rfl
      have c1_ : wr.cell? ⟨g, j * 4 + 1, none⟩ = some (.int .i64 x.2.1) := hr 1 _ rfl
      have c2 : wr.cell? ⟨g, j * 4 + 2, none⟩ = some (.int .i64 x.2.2.1) := hr 2 _ rfl
      have c3 : wr.cell? ⟨g, j * 4 + 3, none⟩ = some (.slice A1 n1 c1) := hr 3 _ rfl
      have f0 : wr.frozen? ⟨g, j * 4, none⟩ = false := HO.out.row.frozenAt _
      have f1 : wr.frozen? ⟨g, j * 4 + 1, none⟩ = false := HO.out.row.frozenAt _
      have f2 : wr.frozen? ⟨g, j * 4 + 2, none⟩ = false := HO.out.row.frozenAt _
      have m1 : IntKind.i64.wrap (t + 1) = t + 1 := IntWalk.i64_in _ (by omega)
      have m2 : IntKind.i64.wrap (t + 2) = t + 2 := IntWalk.i64_in _ (by omega)
      have m3 : IntKind.i64.wrap (t + 3) = t + 3 := IntWalk.i64_in _ (by omega)
      have s1 : t + 1 + 1 = t + 2 := by omega
      have s2 : t + 2 + 1 = t + 3 := by omega
      have HK3 := Lib.hid (show 0 ≤ t + 3 ∧ t + 3 ≤ 1099511627776 by have a1 := HK.out; have a2 := tot_take ms (j + 1); have a4 := tot_snoc (ms.take j) x; rw [← take_snoc hmm] at a4; have a5 := HTT.out; omega)
      clear O1 e1 O2 e2 O3 e3 hnar hback hr he hj1 hmm hin
      go_wp2_with fail
      (with_reducible refine (harn.markByteS x.2.2.2 l r A1 n1 c1 (t + 3) _ HN.out HK3.out.1 HK3.out.2 HLN.out).mono ?_)
      rintro e w4 ⟨rfl, ho4, ht4⟩
      obtain ⟨o4, t4⟩ := HBK.out w4 (marks .u8 (t + 3) n1) (t, t + 1, t + 2, marks .u8 (t + 3) n1) ht4 ho4 rfl rfl
      rw [List.set_set] at o4
      have HO4 := Lib.hid o4
      have HT4 := Lib.hid (tch_trans HT3.out t4)
      clear o4 t4 ho4 ht4 c0 c1_ c2 c3 f0 f1 f2
      have HTJ := Lib.hid (show ms.take (j + 1) = ms.take j ++ [x] from take_snoc HMJ.out)
      have HEND := Lib.hid (show t + 3 + (n1 : Int) = q + tot (ms.take (j + 1)) by rw [HTJ.out, tot_snoc, HLX.out]; have := HTT.out; omega)
      go_wp2_with fail
      go_roundw
      case rel => exact ⟨j + 1, _, by go_num, by rw [HEND.out], by omega, by rw [set_map HM2.out HLL.out, HTJ.out, mks_snoc, List.append_assoc, HTT.out]; unfold mk1; rw [HLX.out]; rfl, HO4.out, HT4.out⟩
      case measure => simp [intOf]; omega
    · have hlt2 : ¬ (j : Int) < n := by omega
      obtain rfl : j = n := by omega
      have HF := Lib.hid (show ms.take j = ms from List.take_of_length_le (by rw [HL.out]; exact Nat.le_refl _))
      have HG := Lib.hid (show t = q + tot ms by rw [← HTT.out, HF.out])
      have HE := Lib.hid (show es.map (·.x) = mks q ms by rw [HM.out, HF.out, List.drop_of_length_le (by rw [HL.out]; exact Nat.le_refl _), List.append_nil])
      go_wp2_with fail
      go_ret
      exact ⟨by rw [← HG.out]; rfl, ⟨es, HE.out, HO.out⟩, HT.out⟩
set_option maxRecDepth 100000 in
set_option maxHeartbeats 4000000 in
theorem markQue (ms : List Msg) (d : Int) (A : Option Addr) (n cap lo hi : Nat) (q : Int) (hk0 : 0 ≤ q) (hk : q + tot ms ≤ 1099511627776) (hbd : ∀ y ∈ ms, y.2.2.2.length ≤ 67108864) (w : World) (h : Oq msg w lo hi A n cap ms) :
    Calls Try.prog 36 #[qV A n cap d, .int .i64 q] w (KPost ms w lo hi A n cap q) := by
  obtain ⟨es0, he0, ho0⟩ := h
  have HR := Lib.hid (show Oq msg (w.alloc (.cells #[.slice A n cap, .int .i64 d] 26)) lo hi A n cap ms from ⟨es0, he0, ho0.below (below_box _ _)⟩)
  have HH := Lib.hid ho0.hi_
  clear he0 ho0
  go_enter Try.func36, Try.ntmps36
  go_wp2_with fail
  (with_reducible refine (markMsgS ms A n cap lo hi q hk0 hk hbd _ HR.out).mono ?_)
  rintro e w1 ⟨rfl, ho, ht⟩
  have O1 := Lib.hid ho
  have T1 := Lib.hid (show Tch lo hi w w1 from ⟨ht.os, ht.tape, ht.output, by have := ht.size; simp at this; omega, fun b hb hd => by rw [ht.block b (by simp; omega) hd]; exact heap_alloc_old _ _ hb⟩)
  clear ho ht
  go_wp2_with fail
  go_ret
  exact ⟨rfl, O1.out, T1.out⟩
set_option maxRecDepth 100000 in
set_option maxHeartbeats 4000000 in
theorem heldMsgS (ms : List Msg) (A : Option Addr) (n cap lo hi : Nat) (q : Int) (hk0 : 0 ≤ q) (hk : q + tot ms ≤ 1099511627776) (hbd : ∀ y ∈ ms, y.2.2.2.length ≤ 67108864) (w : World) (h : Rq msg w lo hi A n cap (mks q ms)) :
    Calls Try.prog 70 #[.slice A n cap, .int .i64 q] w (fun e w' => e = .returned (.int .i64 (q + tot ms)) ∧ w = w') := by
  have hc := h.cap_
  have HQ := Lib.hid h
  have HL := Lib.hid (show ms.length = n by rw [← h.len, mks_len])
  have HK := Lib.hid (And.intro hk0 hk)
  have HBD := Lib.hid hbd
  clear h hk0 hk hbd
  go_enter Try.func70, Try.ntmps70
  go_wp2_with fail
  go_loopw [1, 5] (fun q2 i wr => ∃ j : Nat, i = .int .i64 j ∧ q2 = .int .i64 (q + tot (ms.take j)) ∧ j ≤ n ∧ w = wr) (fun _ i _ => n - (intOf i).toNat)
  case atStart => exact ⟨0, rfl, by simp [tot, blk], by omega, rfl⟩
  case round =>
    obtain ⟨j, rfl, rfl, hj, rfl⟩ := hrel
    obtain ⟨t, hq⟩ : ∃ t, q + tot (ms.take j) = t := ⟨_, rfl⟩
    have hb1 : 0 ≤ t ∧ t ≤ 1099511627776 := by have a1 := HK.out; have a2 := tot_take ms j; have a3 := tot_nonneg (ms.take j); omega
    have HTT := Lib.hid hq
    rw [hq]
    clear hq
    by_cases hlt : j < n
    · have hlt2 : (j : Int) < n := by omega
      have hin : j < ms.length := by rw [HL.out]; exact hlt
      obtain ⟨m, hmm⟩ : ∃ m, ms[j]? = some m := ⟨_, List.getElem?_eq_getElem hin⟩
      have HMJ := Lib.hid hmm
      obtain ⟨b, off, y, hA, hy, h1, h2, A', n', c', hd, c0, c1, c2, c3⟩ := at_ HQ.out hlt
      subst hA
      obtain rfl : y = mk1 t m := by rw [mks_at hmm, HTT.out] at hy; exact (Option.some.inj hy).symm
      replace c0 : w.cell? ⟨b, off + j * 4, none⟩ = some (.int .i64 t) := c0
      replace c1 : w.cell? ⟨b, off + j * 4 + 1, none⟩ = some (.int .i64 (t + 1)) := c1
      replace c2 : w.cell? ⟨b, off + j * 4 + 2, none⟩ = some (.int .i64 (t + 2)) := c2
      have HLX := Lib.hid (show m.2.2.2.length = n' by have := hd.len; rw [← this]; exact (marks_len _ _ _).symm)
      have HD := Lib.hid (show Rd .u8 w lo hi A' n' c' (marks .u8 (t + 3) n') by have hh : Rd .u8 w lo hi A' n' c' (marks .u8 (t + 3) m.2.2.2.length) := hd; rw [HLX.out] at hh; exact hh)
      have HLN := Lib.hid (show n' ≤ 67108864 from HLX.out ▸ HBD.out m (List.mem_of_getElem? hmm))
      have m1 : IntKind.i64.wrap (t + 1) = t + 1 := IntWalk.i64_in _ (by omega)
      have m2 : IntKind.i64.wrap (t + 2) = t + 2 := IntWalk.i64_in _ (by omega)
      have m3 : IntKind.i64.wrap (t + 3) = t + 3 := IntWalk.i64_in _ (by omega)
      have s1 : t + 1 + 1 = t + 2 := by omega
      have s2 : t + 2 + 1 = t + 3 := by omega
      have HK3 := Lib.hid (show 0 ≤ t + 3 ∧ t + 3 ≤ 1099511627776 by have a1 := HK.out; have a2 := tot_take ms (j + 1); have a4 := tot_snoc (ms.take j) m; rw [← take_snoc hmm] at a4; have a5 := HTT.out; omega)
      have HEND := Lib.hid (show t + 3 + (n' : Int) = q + tot (ms.take (j + 1)) by rw [take_snoc HMJ.out, tot_snoc, HLX.out]; have := HTT.out; omega)
      have hng : ¬ t + 3 + (n' : Int) < 0 := by omega
      clear hy hd hmm hin
      go_wp2_with fail
      (with_reducible refine (harn.heldByteS lo hi A' n' c' (t + 3) _ HD.out HK3.out.1 HK3.out.2 HLN.out).mono ?_)
      rintro e w4 ⟨rfl, rfl⟩
      go_wp2_with fail
      go_roundw
      case rel => exact ⟨j + 1, by go_num, by rw [HEND.out], by omega, by first | rfl | trivial⟩
      case measure => simp [intOf]; omega
    · have hlt2 : ¬ (j : Int) < n := by omega
      obtain rfl : j = n := by omega
      have HF := Lib.hid (show ms.take j = ms from List.take_of_length_le (by rw [HL.out]; exact Nat.le_refl _))
      have HG := Lib.hid (show t = q + tot ms by rw [← HTT.out, HF.out])
      go_wp2_with fail
      go_ret
      exact ⟨by rw [← HG.out]; rfl, by first | rfl | trivial⟩
set_option maxRecDepth 100000 in
set_option maxHeartbeats 4000000 in
theorem heldQue (ms : List Msg) (d : Int) (A : Option Addr) (n cap lo hi : Nat) (q : Int) (hk0 : 0 ≤ q) (hk : q + tot ms ≤ 1099511627776) (hbd : ∀ y ∈ ms, y.2.2.2.length ≤ 67108864) (w : World) (h : Rq msg w lo hi A n cap (mks q ms)) :
    Calls Try.prog 38 #[qV A n cap d, .int .i64 q] w (NPost (q + tot ms) w) := by
  have HR := Lib.hid (h.below (below_box w (.cells #[.slice A n cap, .int .i64 d] 26)))
  have HT := Lib.hid (show ¬ q + tot ms < 0 by have := tot_nonneg ms; omega)
  clear h
  go_enter Try.func38, Try.ntmps38
  go_wp2_with fail
  (with_reducible refine (heldMsgS ms A n cap lo hi q hk0 hk hbd _ HR.out).mono ?_)
  rintro e w1 ⟨rfl, rfl⟩
  obtain ⟨t, ht⟩ : ∃ t, q + tot ms = t := ⟨_, rfl⟩
  have HE := Lib.hid ht
  have hng : ¬ t < 0 := by have := HT.out; rw [ht] at this; omega
  rw [ht]
  clear ht
  go_wp2_with fail
  go_ret
  exact ⟨by rw [HE.out]; rfl, below_box _ _⟩
end Go.Proofs.Ytbifggfmfiocoaa.mq
