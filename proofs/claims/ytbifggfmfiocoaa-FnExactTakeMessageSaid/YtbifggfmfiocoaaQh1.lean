/- The harness over messages and queues: sizes, copies, comparison, marks. Condition: sizes up to 2^26. -/
import Derived.Test.YtbifggfmfiocoaaQc2
import Derived.Laws.MakeOwn
namespace Go.Proofs.Ytbifggfmfiocoaa.mq
open Go.RowKit sl harn bx mrw
set_option linter.unusedVariables false
set_option linter.unusedSimpArgs false

theorem infoM : (Try.prog.info? 28).map (fun i => (i.zero, i.size, i.bytes)) = some (some (.agg #[.int .i64 0, .int .i64 0, .int .i64 0, .slice none 0 0]), 4, 48) := by kernel_rfl
theorem szM : (Try.prog.info? 28).map (·.size) = some 4 := by kernel_rfl
theorem szLM : (Try.prog.info? 44).map (·.size) = some 4 := by kernel_rfl
theorem szQ : (Try.prog.info? 26).map (·.size) = some 2 := by kernel_rfl
theorem oneM (a b c : Int) (A : Option Addr) (n k : Nat) : (#[.int .i64 a, .int .i64 b, .int .i64 c, .slice A n k] : Array Value).all (·.oneCell') = true :=
  all_oneCell_toArray (cs := [.int .i64 a, .int .i64 b, .int .i64 c, .slice A n k]) (by intro v hv; simp only [List.mem_cons, List.not_mem_nil, or_false] at hv; rcases hv with rfl | rfl | rfl | rfl <;> rfl)
theorem oneQ (A : Option Addr) (n k : Nat) (a : Int) : (#[.slice A n k, .int .i64 a] : Array Value).all (·.oneCell') = true :=
  all_oneCell_toArray (cs := [.slice A n k, .int .i64 a]) (by intro v hv; simp only [List.mem_cons, List.not_mem_nil, or_false] at hv; rcases hv with rfl | rfl <;> rfl)
theorem run_makeS {P : Program} (t e : TypeId) (i : TypeInfo) (z : Value) (s : Nat) (ht : P.underlying t = some (.slice e)) (hi : P.info? e = some i) (hz : i.zero = some z) (hs : i.size = s)
    (n : Nat) (hb8 : i.bytes ≤ 128) (hn : n ≤ 67108864) (w : World) :
    (Instr.makeSlice t (.int .i64 (n : Int)) (.int .i64 (n : Int))).run P w = .ok (.slice (some ⟨w.heap.size, 0, none⟩) n n) (w.alloc (.cells (madeCells z.cells (n * s)) e)) := by
  have hb : (i.bytes : Int) * (n : Int) ≤ 281474976710656 := by
    have h : ((i.bytes * n : Nat) : Int) ≤ 281474976710656 := by
      have h1 := Nat.mul_le_mul hb8 hn
      omega
    rwa [Int.natCast_mul] at h
  have hr := run_make (P := P) w t e i z ht hi hz .i64 .i64 n n (by omega) (by omega) hb (by omega)
  simp only [Int.toNat_natCast] at hr
  rw [hs] at hr
  exact hr
/-- What remains of a bound behind t: -1 if it does not suffice. -/
def SzPost (left : Int) (t : Nat) (w : World) (e : Ending) (w' : World) : Prop := ∃ r : Int, e = .returned (.int .i64 r) ∧ ((r = -1 ∧ left < t) ∨ (r = left - t ∧ (t : Int) ≤ left)) ∧ Below w.heap.size w w'
theorem szB_in (A : Option Addr) (n cap : Nat) (left : Int) (hl : 0 ≤ left ∧ left ≤ 1048576) (hn : (n : Int) ≤ 9223372036854775807) (hle : (n : Int) ≤ left) (w : World) :
    Calls Try.prog 58 #[.slice A n cap, .int .i64 left] w fun e w' => e = .returned (.int .i64 (left - n)) ∧ w = w' := by
  obtain ⟨h0, h1⟩ := hl
  have hd : IntKind.i64.wrap (left - n) = left - n := IntWalk.i64_in _ (by omega)
  have hq : ¬ left - n < 0 := by omega
  go_enter Try.func58, Try.ntmps58
  go_wp2
  go_ret
  exact ⟨rfl, rfl⟩
theorem szB_out (A : Option Addr) (n cap : Nat) (left : Int) (hl : 0 ≤ left ∧ left ≤ 1048576) (hn : (n : Int) ≤ 9223372036854775807) (hle : left < (n : Int)) (w : World) :
    Calls Try.prog 58 #[.slice A n cap, .int .i64 left] w fun e w' => e = .returned (.int .i64 (-1)) ∧ w = w' := by
  obtain ⟨h0, h1⟩ := hl
  have hd : IntKind.i64.wrap (left - n) = left - n := IntWalk.i64_in _ (by omega)
  have hq : left - n < 0 := by omega
  go_enter Try.func58, Try.ntmps58
  go_wp2
  go_ret
  exact ⟨rfl, rfl⟩
set_option maxRecDepth 100000 in
set_option maxHeartbeats 4000000 in
theorem szMsg (x : Msg) (A : Option Addr) (n c : Nat) (left : Int) (hl : 0 ≤ left ∧ left ≤ 1048576) (hn : (n : Int) ≤ 9223372036854775807) (w : World) :
    Calls Try.prog 28 #[mV x A n c, .int .i64 left] w (SzPost left n w) := by
  have HL := Lib.hid hl
  have HN := Lib.hid hn
  have HB := Lib.hid (below_box w (.cells #[.int .i64 x.1, .int .i64 x.2.1, .int .i64 x.2.2.1, .slice A n c] 44))
  by_cases hle : (n : Int) ≤ left
  · have HE := Lib.hid hle
    have hq : ¬ left - n < 0 := by omega
    clear hl hn hle
    go_enter Try.func28, Try.ntmps28
    go_wp2_with fail
    (with_reducible refine (szB_in A n c left HL.out HN.out HE.out _).mono ?_)
    rintro e w1 ⟨rfl, rfl⟩
    go_wp2_with fail
    go_ret
    exact ⟨left - n, rfl, Or.inr ⟨rfl, HE.out⟩, HB.out⟩
  · have HE := Lib.hid (show left < (n : Int) by omega)
    clear hl hn hle
    go_enter Try.func28, Try.ntmps28
    go_wp2_with fail
    (with_reducible refine (szB_out A n c left HL.out HN.out HE.out _).mono ?_)
    rintro e w1 ⟨rfl, rfl⟩
    go_wp2_with fail
    go_ret
    exact ⟨-1, rfl, Or.inl ⟨rfl, HE.out⟩, HB.out⟩
set_option maxRecDepth 100000 in
set_option maxHeartbeats 4000000 in
theorem szMsgS (ms : List Msg) (A : Option Addr) (n cap lo hi : Nat) (left : Int) (hl : 0 ≤ left ∧ left ≤ 1048576) (w : World) (h : Rq msg w lo hi A n cap ms) :
    Calls Try.prog 63 #[.slice A n cap, .int .i64 left] w (SzPost left (n + blk ms) w) := by
  have hc := h.cap_
  have HQ := Lib.hid h
  clear h
  obtain ⟨h0, h1⟩ := hl
  by_cases hle : (n : Int) ≤ left
  · have hd : IntKind.i64.wrap (left - n) = left - n := IntWalk.i64_in _ (by omega)
    have hq : ¬ left - n < 0 := by omega
    go_enter Try.func63, Try.ntmps63
    go_wp2_with fail
    go_loopw [1, 5] (fun q i wr => ∃ (k : Nat) (r : Int), i = .int .i64 k ∧ q = .int .i64 r ∧ k ≤ n ∧ r = left - n - blk (ms.take k) ∧ 0 ≤ r ∧ Below w.heap.size w wr) (fun _ i _ => n - (intOf i).toNat)
    case atStart => exact ⟨0, _, rfl, rfl, by omega, by simp [blk], by omega, Below.refl _ _⟩
    case round =>
      obtain ⟨k, r, rfl, rfl, hk, hr, hr0, hb⟩ := hrel
      have HB := Lib.hid hb
      have HR := Lib.hid (HQ.out.below hb)
      have HP := Lib.hid hr
      have HS := Lib.hid (show 0 ≤ r ∧ r ≤ 1048576 by omega)
      clear hb hr
      by_cases hlt : k < n
      · obtain ⟨b, off, y, hA, hy, h1, h2, A', n', c', hd1, c0, c1, c2, c3⟩ := at_ HR.out hlt
        subst hA
        have HD := Lib.hid hd1
        have hlt2 : (k : Int) < n := by omega
        have HT := Lib.hid (take_snoc hy)
        have hyl : y.2.2.2.length = n' := HD.out.len
        have HYL := Lib.hid hyl
        have HC := Lib.hid (show (n' : Int) ≤ 9223372036854775807 by have := HD.out.cap_; omega)
        have HBS := Lib.hid (show blk (ms.take (k + 1)) = blk (ms.take k) + n' by rw [HT.out, blk_snoc, HYL.out])
        have HBL := Lib.hid (show blk (ms.take (k + 1)) ≤ blk ms by unfold blk; rw [← List.take_append_drop (k + 1) ms, List.map_append, List.sum_append]; simp)
        clear hy hyl hd1
        go_wp2_with fail
        (with_reducible refine (szMsg y A' n' c' r HS.out HC.out _).mono ?_)
        rintro e w2 ⟨r2, rfl, hor, hb2⟩
        have HB2 := Lib.hid (HB.out.trans (hb2.mono HB.out.size))
        clear hb2
        rcases hor with ⟨rfl, hlo⟩ | ⟨h2, hle2⟩
        · have HE := Lib.hid (show left < ((n + blk ms : Nat) : Int) by have a1 := HP.out; have a2 := HBS.out; have a3 := HBL.out; omega)
          go_wp2_with fail
          go_ret
          exact ⟨-1, rfl, Or.inl ⟨rfl, HE.out⟩, HB2.out⟩
        · have hng : ¬ r2 < 0 := by omega
          have HH := Lib.hid h2
          clear h2 hle2
          have HR2 := Lib.hid (show r2 = left - n - blk (ms.take (k + 1)) by have a0 := HH.out; have a1 := HP.out; have a2 := HBS.out; omega)
          go_wp2_with fail
          go_roundw
          case rel => exact ⟨k + 1, r2, by go_num, rfl, by omega, HR2.out, by omega, HB2.out⟩
          case measure => simp [intOf]; omega
      · have hlt2 : ¬ (k : Int) < n := by omega
        obtain rfl : k = n := by omega
        have HF := Lib.hid (show r = left - ((k + blk ms : Nat) : Int) by have a1 := HP.out; rw [List.take_of_length_le (by rw [HQ.out.len]; exact Nat.le_refl _)] at a1; omega)
        have HG := Lib.hid (show ((k + blk ms : Nat) : Int) ≤ left by have := HF.out; omega)
        go_wp2_with fail
        go_ret
        exact ⟨r, rfl, Or.inr ⟨HF.out, HG.out⟩, HB.out⟩
  · have hd : IntKind.i64.wrap (left - n) = left - n := IntWalk.i64_in _ (by omega)
    have hq : left - n < 0 := by omega
    have HE := Lib.hid (show left < ((n + blk ms : Nat) : Int) by omega)
    go_enter Try.func63, Try.ntmps63
    go_wp2_with fail
    go_ret
    exact ⟨-1, rfl, Or.inl ⟨rfl, HE.out⟩, Below.refl _ _⟩
set_option maxRecDepth 100000 in
set_option maxHeartbeats 4000000 in
theorem szQue (ms : List Msg) (d : Int) (A : Option Addr) (n cap lo hi : Nat) (left : Int) (hl : 0 ≤ left ∧ left ≤ 1048576) (w : World) (h : Rq msg w lo hi A n cap ms) :
    Calls Try.prog 32 #[qV A n cap d, .int .i64 left] w (SzPost left (n + blk ms) w) := by
  have hc := h.cap_
  have HQ := Lib.hid h
  clear h
  have HB := Lib.hid (below_box w (.cells #[.slice A n cap, .int .i64 d] 50))
  have HR := Lib.hid (HQ.out.below HB.out)
  have HL := Lib.hid hl
  clear hl
  go_enter Try.func32, Try.ntmps32
  go_wp2_with fail
  (with_reducible refine (szMsgS ms A n cap lo hi left HL.out _ HR.out).mono ?_)
  rintro e w2 ⟨r, rfl, hor, hb2⟩
  have HB2 := Lib.hid (HB.out.trans (hb2.mono HB.out.size))
  clear hb2
  rcases hor with ⟨rfl, hlo⟩ | ⟨h2, hle2⟩
  · have HE := Lib.hid hlo
    clear hlo
    go_wp2_with fail
    go_ret
    exact ⟨-1, rfl, Or.inl ⟨rfl, HE.out⟩, HB2.out⟩
  · have HE := Lib.hid h2
    have HF := Lib.hid hle2
    have hng : ¬ r < 0 := by omega
    clear h2 hle2
    go_wp2_with fail
    go_ret
    exact ⟨r, rfl, Or.inr ⟨HE.out, HF.out⟩, HB2.out⟩
set_option maxRecDepth 100000 in
set_option maxHeartbeats 4000000 in
theorem toMsg (x : Msg) (A : Option Addr) (n c lo hi : Nat) (w : World) (h : Rd .u8 w lo hi A n c x.2.2.2) (hn : n ≤ 67108864) :
    Calls Try.prog 29 #[mV x A n c] w (XPost x w) := by
  have HR := Lib.hid h
  clear h
  go_enter Try.func29, Try.ntmps29
  go_wp2_with fail
  obtain ⟨w0, hW⟩ : ∃ w0, ((w.alloc (.cells #[.int .i64 x.1, .int .i64 x.2.1, .int .i64 x.2.2.1, .slice A n c] 44)).alloc (.cells #[.int .i64 0, .int .i64 0, .int .i64 0, .slice none 0 0] 28)).alloc (.cells #[.int .i64 x.1, .int .i64 x.2.1, .int .i64 x.2.2.1, .slice none 0 0] 28) = w0 := ⟨_, rfl⟩
  rw [hW]
  have B0 := Lib.hid (show Below w.heap.size w w0 by rw [← hW]; exact (below_box2 w _ _).alloc (by simp; omega) _)
  have X0 := Lib.hid (show Bx 28 w0 (w.heap.size + 1 + 1) #[.int .i64 x.1, .int .i64 x.2.1, .int .i64 x.2.2.1, .slice none 0 0] by rw [← hW]; have hh := Bx.made 28 ((w.alloc (.cells #[.int .i64 x.1, .int .i64 x.2.1, .int .i64 x.2.2.1, .slice A n c] 44)).alloc (.cells #[.int .i64 0, .int .i64 0, .int .i64 0, .slice none 0 0] 28)) #[.int .i64 x.1, .int .i64 x.2.1, .int .i64 x.2.2.1, .slice none 0 0]; simpa using hh)
  have Z0 := Lib.hid (show Bx 28 w0 (w.heap.size + 1) #[.int .i64 0, .int .i64 0, .int .i64 0, .slice none 0 0] by rw [← hW]; have hh := (Bx.made 28 (w.alloc (.cells #[.int .i64 x.1, .int .i64 x.2.1, .int .i64 x.2.2.1, .slice A n c] 44)) #[.int .i64 0, .int .i64 0, .int .i64 0, .slice none 0 0]).below (below_box _ (.cells #[.int .i64 x.1, .int .i64 x.2.1, .int .i64 x.2.2.1, .slice none 0 0] 28)); simpa using hh)
  have R0 := Lib.hid (HR.out.below B0.out)
  clear hW HR
  (with_reducible refine (harn.toByteS x.2.2.2 _ _ A n c _ R0.out hn).mono ?_)
  rintro e w1 ⟨A1, n1, c1, rfl, ho, hb⟩
  have O1 := Lib.hid ho
  have B1 := Lib.hid (B0.out.trans (hb.mono B0.out.size))
  have X1 := Lib.hid (X0.out.below hb)
  have Z1 := Lib.hid (Z0.out.below hb)
  have L1 := Lib.hid (show w.heap.size + 1 + 1 < w0.heap.size from X0.out.lt)
  clear ho hb B0 X0 Z0 R0
  have x0 : w1.cell? ⟨w.heap.size + 1 + 1, 0, none⟩ = some (.int .i64 x.1) := X1.out.cell 0
  have x1 : w1.cell? ⟨w.heap.size + 1 + 1, 1, none⟩ = some (.int .i64 x.2.1) := X1.out.cell 1
  have x2 : w1.cell? ⟨w.heap.size + 1 + 1, 2, none⟩ = some (.int .i64 x.2.2.1) := X1.out.cell 2
  have x3 : w1.cell? ⟨w.heap.size + 1 + 1, 3, none⟩ = some (.slice none 0 0) := X1.out.cell 3
  have fx : w1.frozen? ⟨w.heap.size + 1 + 1, 3, none⟩ = false := X1.out.free 3
  have y0 : w1.cell? ⟨w.heap.size + 1, 0, none⟩ = some (.int .i64 0) := Z1.out.cell 0
  have fy0 : w1.frozen? ⟨w.heap.size + 1, 0, none⟩ = false := Z1.out.free 0
  have y1 : w1.cell? ⟨w.heap.size + 1, 1, none⟩ = some (.int .i64 0) := Z1.out.cell 1
  have fy1 : w1.frozen? ⟨w.heap.size + 1, 1, none⟩ = false := Z1.out.free 1
  have y2 : w1.cell? ⟨w.heap.size + 1, 2, none⟩ = some (.int .i64 0) := Z1.out.cell 2
  have fy2 : w1.frozen? ⟨w.heap.size + 1, 2, none⟩ = false := Z1.out.free 2
  have y3 : w1.cell? ⟨w.heap.size + 1, 3, none⟩ = some (.slice none 0 0) := Z1.out.cell 3
  have fy3 : w1.frozen? ⟨w.heap.size + 1, 3, none⟩ = false := Z1.out.free 3
  go_wp2_with fail
  (try simp only [Exit.inBlock, Exit.then])
  refine bodyPost_ret (v := mV x A1 n1 c1) ?_ rfl ⟨A1, n1, c1, rfl, ?_, ?_⟩
  · rw [results_cell1 rfl]
    go_simp
  · exact (O1.out.same (by simp [World.setCell]) (fun b h1 _ => by have := L1.out; rw [Below.heap_setCell _ _ _ _ (show b ≠ w.heap.size + 1 by omega), Below.heap_setCell _ _ _ _ (show b ≠ w.heap.size + 1 by omega), Below.heap_setCell _ _ _ _ (show b ≠ w.heap.size + 1 by omega), Below.heap_setCell _ _ _ _ (show b ≠ w.heap.size + 1 by omega), Below.heap_setCell _ _ _ _ (show b ≠ w.heap.size + 1 + 1 by omega)])).up.down (by have := L1.out; omega)
  · exact ((((B1.out.setCell (p := ⟨w.heap.size + 1 + 1, 3, none⟩) (by show w.heap.size ≤ w.heap.size + 1 + 1; omega) _).setCell (p := ⟨w.heap.size + 1, 0, none⟩) (by show w.heap.size ≤ w.heap.size + 1; omega) _).setCell (p := ⟨w.heap.size + 1, 1, none⟩) (by show w.heap.size ≤ w.heap.size + 1; omega) _).setCell (p := ⟨w.heap.size + 1, 2, none⟩) (by show w.heap.size ≤ w.heap.size + 1; omega) _).setCell (p := ⟨w.heap.size + 1, 3, none⟩) (by show w.heap.size ≤ w.heap.size + 1; omega) _
/-- Messages that a function hands back. -/
def SPost (ms : List Msg) (w : World) (e : Ending) (w' : World) : Prop := ∃ A n cap, e = .returned (.slice A n cap) ∧ Oq msg w' w.heap.size w'.heap.size A n cap ms ∧ Below w.heap.size w w'
set_option maxRecDepth 100000 in
set_option maxHeartbeats 4000000 in
theorem toMsgS (ms : List Msg) (A : Option Addr) (n cap lo hi : Nat) (hn : n ≤ 67108864) (hbd : ∀ y ∈ ms, y.2.2.2.length ≤ 67108864) (w : World) (h : Rq msg w lo hi A n cap ms) :
    Calls Try.prog 64 #[.slice A n cap] w (SPost ms w) := by
  obtain ⟨i0, hi0, hz0, hz1, hz2⟩ := info_parts infoM
  have hmk := fun W => run_makeS (P := Try.prog) 24 28 i0 _ 4 Try.underlying24 hi0 hz0 hz1 n (by omega) hn W
  have hc := h.cap_
  have HQ := Lib.hid h
  have HN := Lib.hid hn
  have HBD := Lib.hid hbd
  clear h hz2 hz1 hz0 hi0 hn hbd
  go_enter Try.func64, Try.ntmps64
  go_wp2_with fail
  go_loopw [4] (fun i wr => ∃ (k : Nat) (es : List (El Msg)), i = .int .i64 k ∧ k ≤ n ∧ es.map (·.x) = ms.take k ∧ Oe msg wr w.heap.size wr.heap.size (some ⟨w.heap.size, 0, none⟩) k n es ∧ Below w.heap.size w wr) (fun i _ => n - (intOf i).toNat)
  case atStart => exact ⟨0, [], rfl, by omega, by simp, (Oe.made msg w _ n (by have := HN.out; unfold maxLen; omega) (size_madeCells _ _)).up, below_box _ _⟩
  case round =>
    obtain ⟨k, es, rfl, hk, hm, ho, hb⟩ := hrel
    have HM := Lib.hid hm
    have HO := Lib.hid ho
    have HB := Lib.hid hb
    have HR := Lib.hid (HQ.out.below hb)
    clear hm ho hb
    by_cases hlt : k < n
    · obtain ⟨b, off, y, hA, hy, h1, h2, A', n', c', hd, c0, c1, c2, c3⟩ := at_ HR.out hlt
      subst hA
      have HD := Lib.hid hd
      have hlt2 : (k : Int) < n := by omega
      have HT := Lib.hid (take_snoc hy)
      have HL := Lib.hid (show n' ≤ 67108864 from HD.out.len ▸ HBD.out y (List.mem_of_getElem? hy))
      clear hy hd
      go_wp2_with fail
      (with_reducible refine (toMsg y A' n' c' _ _ _ HD.out HL.out).mono ?_)
      rintro e w2 ⟨A2, n2, e2, rfl, ho2, hb2⟩
      have HO2 := Lib.hid (HO.out.below hb2)
      have HB2 := Lib.hid (HB.out.trans (hb2.mono HB.out.size))
      have HW2 := Lib.hid ho2
      have TH := Lib.hid (HO2.out.there (k := k) hlt)
      have HSZ := Lib.hid szM
      have HON := Lib.hid (oneM y.1 y.2.1 y.2.2.1 A2 n2 e2)
      clear ho2 hb2 c0 c1 c2 c3
      go_wp2_with ((refine list_storeAt w.heap.size (k * 4) #[.int .i64 y.1, .int .i64 y.2.1, .int .i64 y.2.2.1, .slice A2 n2 e2] TH.out HSZ.out HON.out ?_ ?_ ?_; (· rfl); (· rfl)))
      go_roundw
      case rel => exact ⟨k + 1, es ++ [⟨y, A2, n2, e2⟩], by go_num, by omega, by rw [List.map_append, HM.out, HT.out]; rfl, by rw [size_setCells]; exact HO2.out.put hlt ⟨y, A2, n2, e2⟩ HW2.out (by exact Nat.le_refl _), below_setCells _ _ _ HB2.out (Nat.le_refl _)⟩
      case measure => simp [intOf]; omega
    · have hlt2 : ¬ (k : Int) < n := by omega
      obtain rfl : k = n := by omega
      have HF := Lib.hid (show ms.take k = ms from List.take_of_length_le (by rw [HQ.out.len]; exact Nat.le_refl _))
      go_wp2_with fail
      go_ret
      exact ⟨_, _, _, rfl, ⟨es, by rw [HM.out, HF.out], HO.out⟩, HB.out⟩
end Go.Proofs.Ytbifggfmfiocoaa.mq
