/- Merged texts of this seat. Uv: The functions of varints, program and specification: AppendUvarint. Condition: lengths up to 2^27. | Qc3: Copies of messages and of queues, program and specification. Condition: bodies up to 2^26 bytes. | Qc4: Copies of queues, program and specification. Condition: sizes up to 2^26. | Stv: A whole variable loaded, at the operation itself. Condition: none. | Qc5: ExpireMessages of both sides. Condition: sizes up to 2^26. | Qc6: Removal of one message: slices.Delete, withoutMessage. Condition: at most 2^26 messages. | Qc7: withoutMessage and EnqueueMessage of the program. Condition: sizes up to 2^26. -/
import Derived.Laws.Bits128
import Derived.Test.YtjmenbpalihnnaaG1
import Derived.Test.YtjmenbpalihnnaaG2
import Derived.Test.YtjmenbpalihnnaaG3
section
namespace Go.Proofs.Ytjmenbpalihnnaa.uvs
open Go.RowKit sl enc harn

theorem inRange_yes (n a b : Int) (h : a ≤ n ∧ n ≤ b) (w : World) :
    Calls Try.prog 71 #[.int .i64 n, .int .i64 a, .int .i64 b] w fun e w' => e = .returned (.bool true) ∧ w = w' := by
  obtain ⟨h1, h2⟩ := h
  go_enter Try.func71, Try.ntmps71
  go_wp2
  go_ret
  exact ⟨rfl, rfl⟩
theorem inRange_no (n a b : Int) (h : ¬ (a ≤ n ∧ n ≤ b)) (w : World) :
    Calls Try.prog 71 #[.int .i64 n, .int .i64 a, .int .i64 b] w fun e w' => e = .returned (.bool false) ∧ w = w' := by
  by_cases h1 : a ≤ n
  · have h2 : ¬ n ≤ b := by omega
    clear h
    go_enter Try.func71, Try.ntmps71
    go_wp2
    go_ret
    exact ⟨rfl, rfl⟩
  · clear h
    go_enter Try.func71, Try.ntmps71
    go_wp2
    go_ret
    exact ⟨rfl, rfl⟩
theorem l1In_yes (n a b : Int) (h : a ≤ n ∧ n ≤ b) (w : World) :
    Calls Try.prog 67 #[.int .i64 n, .int .i64 a, .int .i64 b] w fun e w' => e = .returned (.bool true) ∧ w = w' := by
  obtain ⟨h1, h2⟩ := h
  go_enter Try.func67, Try.ntmps67
  go_wp2
  go_ret
  exact ⟨rfl, rfl⟩
theorem l1In_no (n a b : Int) (h : ¬ (a ≤ n ∧ n ≤ b)) (w : World) :
    Calls Try.prog 67 #[.int .i64 n, .int .i64 a, .int .i64 b] w fun e w' => e = .returned (.bool false) ∧ w = w' := by
  by_cases h1 : a ≤ n
  · have h2 : ¬ n ≤ b := by omega
    clear h
    go_enter Try.func67, Try.ntmps67
    go_wp2
    go_ret
    exact ⟨rfl, rfl⟩
  · clear h
    go_enter Try.func67, Try.ntmps67
    go_wp2
    go_ret
    exact ⟨rfl, rfl⟩

/-- A part of a slice of bytes: it is read where it lies. -/
def PartPost (lo hi : Nat) (zs : List Int) (i j : Nat) (w : World) (e : Ending) (w' : World) : Prop :=
  ∃ A, e = .returned (.slice A (j - i) (j - i)) ∧ Rd .u8 w lo hi A (j - i) (j - i) ((zs.drop i).take (j - i)) ∧ w = w'
theorem part (lo hi : Nat) (A : Option Addr) (n cap : Nat) (zs : List Int) (i j : Nat) (w : World) (h : Rd .u8 w lo hi A n cap zs) (h1 : i ≤ j) (h2 : j ≤ n) :
    Calls Try.prog 107 #[.slice A n cap, .int .i64 i, .int .i64 j] w (PartPost lo hi zs i j w) := by
  have hb := h.cap_
  have h3 : j ≤ cap := by omega
  have HR := Lib.hid h
  clear h
  by_cases hij : j = i
  · subst hij
    go_enter Try.func107, Try.ntmps107
    go_wp2
    go_ret
    exact ⟨A, by rw [Nat.sub_self]; rfl, HR.out.cut j j (j - j) A (fun h => by omega) h1 h2 (Nat.le_refl _) (by unfold maxLen; omega), rfl⟩
  · go_enter Try.func107, Try.ntmps107
    go_wp2
    go_ret
    exact ⟨_, rfl, HR.out.cut i j (j - i) _ (fun h => by simp) h1 h2 (Nat.le_refl _) (by unfold maxLen; omega), rfl⟩

/-- A copy in new memory. -/
theorem copyPart (lo hi : Nat) (A : Option Addr) (n cap : Nat) (zs : List Int) (i j : Nat) (w : World) (h : Rd .u8 w lo hi A n cap zs) (h1 : i ≤ j) (h2 : j ≤ n) (hn : n ≤ 134217728) :
    Calls Try.prog 75 #[.slice A n cap, .int .i64 i, .int .i64 j] w (SlPost 5 .u8 w ((zs.drop i).take (j - i))) := by
  obtain ⟨i0, hi0, hz0, hz1, hz2⟩ := info_parts u8Info
  have hb := h.cap_
  have HR := Lib.hid h
  have HZ := Lib.hid (And.intro hi0 (And.intro hz0 (And.intro hz1 hz2)))
  clear h hi0 hz0 hz1 hz2
  go_enter Try.func75, Try.ntmps75
  go_wp2_with (first
    | (go_at_call 107; refine (part lo hi A n cap zs i j _ (HR.out.alloc _) h1 h2).mono ?_; rintro e w1 ⟨B, rfl, hr, rfl⟩; have HP := Lib.hid hr; clear hr)
    | (at_builtin; refine wpList_app _ rfl _ _ 22 rfl 5 i0 _ .u8 Try.underlying22 HZ.out.1 HZ.out.2.1 HZ.out.2.2.1 (by rw [HZ.out.2.2.2]; omega) rfl rfl rfl (Ow.empty _ _ _) HP.out (by omega) (by simp) ?_; intro A1 cap1 w1 ho hb1; have HO := Lib.hid ho; have HB := Lib.hid hb1; clear ho hb1))
  go_ret
  refine ⟨_, _, _, rfl, by simpa using HO.out, ?_⟩
  exact ((Below.refl _ _).alloc (Nat.le_refl _) _).trans HB.out

/-- A slice of bytes from block lo on, below which nothing has turned. -/
def AddPost (lo : Nat) (w : World) (zs : List Int) (e : Ending) (w' : World) : Prop :=
  ∃ A n cap, e = .returned (.slice A n cap) ∧ Ow 5 .u8 w' lo w'.heap.size A n cap zs ∧ Below lo w w'
theorem AddPost.intro {lo : Nat} {w w' : World} {zs : List Int} {A : Option Addr} {n cap hi : Nat} (h : Ow 5 .u8 w' lo hi A n cap zs) (hb : Below lo w w') : AddPost lo w zs (.returned (.slice A n cap)) w' :=
  ⟨A, n, cap, rfl, h.up, hb⟩
/-- A varint that is being written: what is there, and what is to come. -/
def Way (lo : Nat) (w wr : World) (zs : List Int) (N : Nat) (b x : Value) : Prop :=
  ∃ A m cap l y, b = .slice A m cap ∧ x = .int .i64 (y : Nat) ∧ l ++ enc y = zs ++ enc N ∧ Ow 5 .u8 wr lo wr.heap.size A m cap l ∧ Below lo w wr ∧ y ≤ N ∧ lo ≤ wr.heap.size
theorem way_step {l zs : List Int} {y N : Nat} (h : l ++ enc y = zs ++ enc N) (hy : 128 ≤ y) : (l ++ [((y % 128 + 128 : Nat) : Int)]) ++ enc (y / 128) = zs ++ enc N := by
  rw [← h, enc_more hy]; simp
theorem way_last {l zs : List Int} {y N : Nat} (h : l ++ enc y = zs ++ enc N) (hy : y < 128) : l ++ [(y : Int)] = zs ++ enc N := by
  rw [← h, enc_less hy]
theorem way_len {l zs : List Int} {y N : Nat} (h : l ++ enc y = zs ++ enc N) (hN : N ≤ 1000000000000) : l.length ≤ zs.length + 5 := by
  have e := congrArg List.length h
  rw [List.length_append, List.length_append] at e
  have := enc_pos y
  have := enc_len6 hN
  omega
theorem below_push {lo : Nat} {w wr w' : World} {o : Obj} (h : Below lo w wr) (hl : lo ≤ wr.heap.size) (hb : Below lo (wr.alloc o) w') : Below lo w w' := (h.alloc hl o).trans hb

theorem or128 (x : Int) (h0 : 0 ≤ x) (h1 : x < 128) : bits .or .i64 x 128 = x + 128 := by
  obtain ⟨k, rfl⟩ := Int.eq_ofNat_of_zero_le h0
  have e : (k ||| 128) = k + 128 := by
    have := Nat.two_pow_add_eq_or_of_lt (show k < 2 ^ 7 by omega) 1
    rw [Nat.or_comm]
    simpa [Nat.add_comm] using this.symm
  show IntKind.i64.wrap ((BitVec.ofInt 64 (k : Int) ||| BitVec.ofInt 64 128).toNat : Int) = _
  rw [BitVec.toNat_or]
  have e1 : (BitVec.ofInt 64 (k : Int)).toNat = k := by rw [BitVec.ofInt_natCast, BitVec.toNat_ofNat]; omega
  have e2 : (BitVec.ofInt 64 128).toNat = 128 := by rfl
  rw [e1, e2, e, IntKind.wrap_i64]
  omega
theorem and127 (x : Int) : bits .and .i64 x 127 = x % 128 := i64_and127 x

end Go.Proofs.Ytjmenbpalihnnaa.uvs
end

section
namespace Go.Proofs.Ytjmenbpalihnnaa.mq
open Go.RowKit sl harn bx mrw
set_option linter.unusedVariables false
set_option linter.unusedSimpArgs false

theorem x_parts {x : Msg} {w w' : World} {e : Ending} (h : XPost x w e w') : ∃ A n cap, e = .returned (mV x A n cap) ∧ Ow 5 .u8 w' w.heap.size w'.heap.size A n cap x.2.2.2 ∧ Below w.heap.size w w' := h
theorem q_parts {q : List Msg × Int} {w w' : World} {e : Ending} (h : QPost q w e w') : ∃ A n cap es, e = .returned (qV A n cap q.2) ∧ es.map (·.x) = q.1 ∧ Oe msg w' w.heap.size w'.heap.size A n cap es ∧ Below w.heap.size w w' := by
  obtain ⟨A, n, cap, e, ⟨es, h1, h2⟩, h3⟩ := h
  exact ⟨A, n, cap, es, e, h1, h2, h3⟩
theorem copyAll (lo hi : Nat) (A : Option Addr) (n cap : Nat) (zs : List Int) (w : World) (h : Rd .u8 w lo hi A n cap zs) (hn : n ≤ 134217728) :
    Calls Try.prog 75 #[.slice A n cap, .int .i64 0, .int .i64 n] w (SlPost 5 .u8 w zs) := by
  have hh := uvs.copyPart lo hi A n cap zs 0 n w h (by omega) (Nat.le_refl _) hn
  have e : (zs.drop 0).take (n - 0) = zs := by rw [List.drop_zero]; exact List.take_of_length_le (by rw [h.len]; omega)
  rw [e] at hh
  exact hh
set_option maxRecDepth 100000 in
set_option maxHeartbeats 4000000 in
theorem implCm (x : Msg) (A : Option Addr) (n c lo hi : Nat) (w : World) (h : Rd .u8 w lo hi A n c x.2.2.2) (hn : n ≤ 67108864) :
    Calls Try.prog 64 #[mV x A n c] w (XPost x w) := by
  have HR := Lib.hid h
  have HN := Lib.hid hn
  clear h hn
  obtain ⟨w0, hW⟩ : ∃ w0, (w.alloc (.cells #[.int .i64 x.1, .int .i64 x.2.1, .int .i64 x.2.2.1, .slice A n c] 28)).alloc (.cells #[.int .i64 0, .int .i64 0, .int .i64 0, .slice none 0 0] 28) = w0 := ⟨_, rfl⟩
  have B0 := Lib.hid (show Below w.heap.size w w0 by rw [← hW]; exact below_box2 w _ _)
  have X0 := Lib.hid (show Bx 28 w0 w.heap.size #[.int .i64 x.1, .int .i64 x.2.1, .int .i64 x.2.2.1, .slice A n c] by rw [← hW]; exact (Bx.made _ w _).below (below_box _ _))
  have Z0 := Lib.hid (show Bx 28 w0 (w.heap.size + 1) #[.int .i64 0, .int .i64 0, .int .i64 0, .slice none 0 0] by rw [← hW]; have hh := Bx.made 28 (w.alloc (.cells #[.int .i64 x.1, .int .i64 x.2.1, .int .i64 x.2.2.1, .slice A n c] 28)) #[.int .i64 0, .int .i64 0, .int .i64 0, .slice none 0 0]; simpa using hh)
  have R0 := Lib.hid (HR.out.below B0.out)
  have HW := Lib.hid hW
  clear hW HR
  go_enter Try.func64, Try.ntmps64
  go_wp2_with fail
  rw [HW.out]
  (with_reducible refine (copyAll _ _ A n c x.2.2.2 _ R0.out (by have := HN.out; omega)).mono ?_)
  rintro e w1 ⟨A1, n1, c1, rfl, ho, hb⟩
  have O1 := Lib.hid ho
  have B1 := Lib.hid (B0.out.trans (hb.mono B0.out.size))
  have X1 := Lib.hid (X0.out.below hb)
  have Z1 := Lib.hid (Z0.out.below hb)
  have L1 := Lib.hid (show w.heap.size + 1 < w0.heap.size from Z0.out.lt)
  clear ho hb B0 X0 Z0 R0 HW
  have x0 : w1.cell? ⟨w.heap.size, 0, none⟩ = some (.int .i64 x.1) := X1.out.cell 0
  have x1 : w1.cell? ⟨w.heap.size, 1, none⟩ = some (.int .i64 x.2.1) := X1.out.cell 1
  have x2 : w1.cell? ⟨w.heap.size, 2, none⟩ = some (.int .i64 x.2.2.1) := X1.out.cell 2
  have x3 : w1.cell? ⟨w.heap.size, 3, none⟩ = some (.slice A n c) := X1.out.cell 3
  have fx : w1.frozen? ⟨w.heap.size, 3, none⟩ = false := X1.out.free 3
  have y0 : w1.cell? ⟨w.heap.size + 1, 0, none⟩ = some (.int .i64 0) := Z1.out.cell 0
  have fy0 : w1.frozen? ⟨w.heap.size + 1, 0, none⟩ = false := Z1.out.free 0
  have y1 : w1.cell? ⟨w.heap.size + 1, 1, none⟩ = some (.int .i64 0) := Z1.out.cell 1
  have fy1 : w1.frozen? ⟨w.heap.size + 1, 1, none⟩ = false := Z1.out.free 1
  have y2 : w1.cell? ⟨w.heap.size + 1, 2, none⟩ = some (.int .i64 0) := Z1.out.cell 2
  have fy2 : w1.frozen? ⟨w.heap.size + 1, 2, none⟩ = false := Z1.out.free 2
  have y3 : w1.cell? ⟨w.heap.size + 1, 3, none⟩ = some (.slice none 0 0) := Z1.out.cell 3
  have fy3 : w1.frozen? ⟨w.heap.size + 1, 3, none⟩ = false := Z1.out.free 3
  go_wp2_with fail
  (try simp only [Exit.inBlock, Exit.then])
  refine bodyPost_ret (v := mV x A1 n1 c1) ?_ rfl ?_
  · rw [results_cell1 rfl]
    go_simp
  · refine ⟨A1, n1, c1, rfl, ?_, ?_⟩
    · exact ((O1.out).same (by simp [World.setCell]) (fun b h1 _ => by have := L1.out; rw [Below.heap_setCell _ _ _ _ (show b ≠ w.heap.size + 1 by omega), Below.heap_setCell _ _ _ _ (show b ≠ w.heap.size + 1 by omega), Below.heap_setCell _ _ _ _ (show b ≠ w.heap.size + 1 by omega), Below.heap_setCell _ _ _ _ (show b ≠ w.heap.size + 1 by omega), Below.heap_setCell _ _ _ _ (show b ≠ w.heap.size by omega)])).up.down (by have := L1.out; omega)
    · exact (((((B1.out.setCell (p := ⟨w.heap.size, 3, none⟩) (by show w.heap.size ≤ w.heap.size; omega) _).setCell (p := ⟨w.heap.size + 1, 0, none⟩) (by show w.heap.size ≤ w.heap.size + 1; omega) _).setCell (p := ⟨w.heap.size + 1, 1, none⟩) (by show w.heap.size ≤ w.heap.size + 1; omega) _).setCell (p := ⟨w.heap.size + 1, 2, none⟩) (by show w.heap.size ≤ w.heap.size + 1; omega) _).setCell (p := ⟨w.heap.size + 1, 3, none⟩) (by show w.heap.size ≤ w.heap.size + 1; omega) _)
set_option maxRecDepth 100000 in
set_option maxHeartbeats 4000000 in
theorem specCm (x : Msg) (A : Option Addr) (n c lo hi : Nat) (w : World) (h : Rd .u8 w lo hi A n c x.2.2.2) (hn : n ≤ 67108864) :
    Calls Try.prog 110 #[mV x A n c] w (XPost x w) := by
  obtain ⟨i0, hi0, hz0, hz1, hz2⟩ := info_parts u8Info
  have HZ := Lib.hid (And.intro hi0 (And.intro hz0 (And.intro hz1 hz2)))
  clear hi0 hz0 hz1 hz2
  have HR := Lib.hid h
  have HN := Lib.hid hn
  clear h hn
  obtain ⟨w0, hW⟩ : ∃ w0, (w.alloc (.cells #[.int .i64 x.1, .int .i64 x.2.1, .int .i64 x.2.2.1, .slice A n c] 28)).alloc (.cells #[.int .i64 0, .int .i64 0, .int .i64 0, .slice none 0 0] 28) = w0 := ⟨_, rfl⟩
  have B0 := Lib.hid (show Below w.heap.size w w0 by rw [← hW]; exact below_box2 w _ _)
  have X0 := Lib.hid (show Bx 28 w0 w.heap.size #[.int .i64 x.1, .int .i64 x.2.1, .int .i64 x.2.2.1, .slice A n c] by rw [← hW]; exact (Bx.made _ w _).below (below_box _ _))
  have Z0 := Lib.hid (show Bx 28 w0 (w.heap.size + 1) #[.int .i64 0, .int .i64 0, .int .i64 0, .slice none 0 0] by rw [← hW]; have hh := Bx.made 28 (w.alloc (.cells #[.int .i64 x.1, .int .i64 x.2.1, .int .i64 x.2.2.1, .slice A n c] 28)) #[.int .i64 0, .int .i64 0, .int .i64 0, .slice none 0 0]; simpa using hh)
  have R0 := Lib.hid (HR.out.below B0.out)
  have HW := Lib.hid hW
  clear hW HR
  have BE := Lib.hid (below_box w0 (.cells #[] 5))
  have L1 := Lib.hid (show w.heap.size + 1 < w0.heap.size from Z0.out.lt)
  have p3 : (w0.alloc (.cells #[] 5)).cell? ⟨w.heap.size, 3, none⟩ = some (.slice A n c) := (X0.out.below BE.out).cell 3
  go_enter Try.func110, Try.ntmps110
  go_upto_region 1 with fail
  rw [HW.out]
  go_wp2_with (at_builtin; refine wpList_app _ rfl _ _ 22 rfl 5 i0 _ .u8 Try.underlying22 HZ.out.1 HZ.out.2.1 HZ.out.2.2.1 (by rw [HZ.out.2.2.2]; omega) rfl rfl rfl (Ow.empty _ _ _) (R0.out.alloc _) (by have := HN.out; omega) (by simp) ?_; intro A1 c1 w1 ho hb1; have O1 := Lib.hid (show Ow 5 .u8 w1 w0.heap.size w1.heap.size A1 n c1 x.2.2.2 by simpa using ho); have BB := Lib.hid (BE.out.trans hb1); have B1 := Lib.hid (B0.out.trans (BB.out.mono B0.out.size)); have X1 := Lib.hid (X0.out.below BB.out); have Z1 := Lib.hid (Z0.out.below BB.out); clear ho hb1 p3; rw [Nat.zero_add]; have x0 : w1.cell? ⟨w.heap.size, 0, none⟩ = some (.int .i64 x.1) := X1.out.cell 0; have x1 : w1.cell? ⟨w.heap.size, 1, none⟩ = some (.int .i64 x.2.1) := X1.out.cell 1; have x2 : w1.cell? ⟨w.heap.size, 2, none⟩ = some (.int .i64 x.2.2.1) := X1.out.cell 2; have x3 : w1.cell? ⟨w.heap.size, 3, none⟩ = some (.slice A n c) := X1.out.cell 3; have fx : w1.frozen? ⟨w.heap.size, 3, none⟩ = false := X1.out.free 3; have y0 : w1.cell? ⟨w.heap.size + 1, 0, none⟩ = some (.int .i64 0) := Z1.out.cell 0; have fy0 : w1.frozen? ⟨w.heap.size + 1, 0, none⟩ = false := Z1.out.free 0; have y1 : w1.cell? ⟨w.heap.size + 1, 1, none⟩ = some (.int .i64 0) := Z1.out.cell 1; have fy1 : w1.frozen? ⟨w.heap.size + 1, 1, none⟩ = false := Z1.out.free 1; have y2 : w1.cell? ⟨w.heap.size + 1, 2, none⟩ = some (.int .i64 0) := Z1.out.cell 2; have fy2 : w1.frozen? ⟨w.heap.size + 1, 2, none⟩ = false := Z1.out.free 2; have y3 : w1.cell? ⟨w.heap.size + 1, 3, none⟩ = some (.slice none 0 0) := Z1.out.cell 3; have fy3 : w1.frozen? ⟨w.heap.size + 1, 3, none⟩ = false := Z1.out.free 3)
  (try simp only [Exit.inBlock, Exit.then])
  refine bodyPost_ret (v := mV x A1 n c1) ?_ rfl ?_
  · rw [results_cell1 rfl]
    go_simp
  · refine ⟨A1, n, c1, rfl, ?_, ?_⟩
    · exact ((O1.out).same (by simp [World.setCell]) (fun b h1 _ => by have := L1.out; rw [Below.heap_setCell _ _ _ _ (show b ≠ w.heap.size + 1 by omega), Below.heap_setCell _ _ _ _ (show b ≠ w.heap.size + 1 by omega), Below.heap_setCell _ _ _ _ (show b ≠ w.heap.size + 1 by omega), Below.heap_setCell _ _ _ _ (show b ≠ w.heap.size + 1 by omega), Below.heap_setCell _ _ _ _ (show b ≠ w.heap.size by omega)])).up.down (by have := L1.out; omega)
    · exact (((((B1.out.setCell (p := ⟨w.heap.size, 3, none⟩) (by show w.heap.size ≤ w.heap.size; omega) _).setCell (p := ⟨w.heap.size + 1, 0, none⟩) (by show w.heap.size ≤ w.heap.size + 1; omega) _).setCell (p := ⟨w.heap.size + 1, 1, none⟩) (by show w.heap.size ≤ w.heap.size + 1; omega) _).setCell (p := ⟨w.heap.size + 1, 2, none⟩) (by show w.heap.size ≤ w.heap.size + 1; omega) _).setCell (p := ⟨w.heap.size + 1, 3, none⟩) (by show w.heap.size ≤ w.heap.size + 1; omega) _)
end Go.Proofs.Ytjmenbpalihnnaa.mq
end

section
namespace Go.Proofs.Ytjmenbpalihnnaa.mq
open Go.RowKit sl harn bx mrw
set_option linter.unusedVariables false
set_option linter.unusedSimpArgs false

/-- A block without cells is an empty row. -/
theorem oe_box {α : Type} {S : Sh α} {w : World} {b : Nat} (h : Bx S.T w b #[]) : Oe S w b w.heap.size (some ⟨b, 0, none⟩) 0 0 [] :=
  ⟨⟨by simp [flat], .inr ⟨b, 0, #[], rfl, Nat.le_refl _, h, Nat.le_refl _, by unfold maxLen; omega, by simp, by simp [flat]⟩⟩, fun _ h => (by cases h), List.Pairwise.nil, Nat.le_refl _, fun g o e => by
    injection e with e; injection e with e _; subst e; exact h.lt⟩
set_option maxRecDepth 100000 in
set_option maxHeartbeats 4000000 in
theorem implCq (ms : List Msg) (d : Int) (A : Option Addr) (n cap lo hi : Nat) (hn : n ≤ 67108864) (hbd : ∀ y ∈ ms, y.2.2.2.length ≤ 67108864) (w : World) (h : Rq msg w lo hi A n cap ms) :
    Calls Try.prog 62 #[qV A n cap d] w (QPost (ms, d) w) := by
  obtain ⟨i0, hi0, hz0, hz1, hz2⟩ := info_parts infoM
  have HZ := Lib.hid (And.intro hi0 (And.intro hz0 (And.intro hz1 hz2)))
  clear hi0 hz0 hz1 hz2
  have QW := Lib.hid h
  have hqh := h.hi_
  have hqc := h.cap_
  have HBD := Lib.hid hbd
  clear h hbd
  go_enter Try.func62, Try.ntmps62
  go_wp2_with fail
  obtain ⟨w0, hW⟩ : ∃ w0, ((w.alloc (.cells #[.slice A n cap, .int .i64 d] 26)).alloc (.cells #[.slice none 0 0, .int .i64 0] 26)).alloc (.cells #[] 28) = w0 := ⟨_, rfl⟩
  rw [hW]
  have B0 := Lib.hid (show Below w.heap.size w w0 by rw [← hW]; exact (((Below.refl _ _).alloc (by simp <;> omega) _).alloc (by simp <;> omega) _).alloc (by simp <;> omega) _)
  have X0 := Lib.hid (show Bx 26 w0 (w.heap.size) #[.slice A n cap, .int .i64 d] by
      rw [← hW]
      have hh := Bx.made 26 w #[.slice A n cap, .int .i64 d]
      exact ((hh.below (below_box _ _)).below (below_box _ _)))
  have Z0 := Lib.hid (show Bx 26 w0 (w.heap.size + 1) #[.slice none 0 0, .int .i64 0] by
      rw [← hW]
      have hh : Bx 26 ((w.alloc (.cells #[.slice A n cap, .int .i64 d] 26)).alloc (.cells #[.slice none 0 0, .int .i64 0] 26)) (w.heap.size + 1) #[.slice none 0 0, .int .i64 0] := by have hh := Bx.made 26 (w.alloc (.cells #[.slice A n cap, .int .i64 d] 26)) #[.slice none 0 0, .int .i64 0]; simpa using hh
      exact (hh.below (below_box _ _)))
  have E0 := Lib.hid (show Bx 28 w0 (w.heap.size + 1 + 1) #[] by
      rw [← hW]
      have hh : Bx 28 (((w.alloc (.cells #[.slice A n cap, .int .i64 d] 26)).alloc (.cells #[.slice none 0 0, .int .i64 0] 26)).alloc (.cells #[] 28)) (w.heap.size + 1 + 1) #[] := by have hh := Bx.made 28 ((w.alloc (.cells #[.slice A n cap, .int .i64 d] 26)).alloc (.cells #[.slice none 0 0, .int .i64 0] 26)) #[]; simpa using hh
      exact hh)
  have Q0 := Lib.hid (show Rq msg w0 lo hi A n cap ms by rw [← hW]; exact (((QW.out.below (below_box _ _)).below (below_box _ _)).below (below_box _ _)))
  clear hW
  have O0 := Lib.hid (show Oe msg w0 (w.heap.size + 1 + 1) w0.heap.size (some ⟨w.heap.size + 1 + 1, 0, none⟩) 0 0 [] from oe_box (S := msg) E0.out)
  clear E0
  go_loopw [3, 10] (fun v0 v1 wr => ∃ (k : Nat) (A1 : Option Addr) (c1 : Nat) (es : List (El Msg)), v0 = .slice A1 k c1 ∧ v1 = .int .i64 ((k : Int)) ∧ (k ≤ n) ∧ (es.map (·.x) = ms.take k) ∧ Below w.heap.size w wr ∧ Bx 26 wr w.heap.size #[.slice A n cap, .int .i64 d] ∧ Bx 26 wr (w.heap.size + 1) #[.slice none 0 0, .int .i64 0] ∧ Rq msg wr lo hi A n cap ms ∧ Oe msg wr (w.heap.size + 1 + 1) wr.heap.size A1 k c1 es) (fun _ i _ => n - (intOf i).toNat)
  case atStart => exact ⟨0, (some ⟨w.heap.size + 1 + 1, 0, none⟩), 0, [], rfl, rfl, by omega, by simp, B0.out, X0.out, Z0.out, Q0.out, O0.out⟩
  case round =>
    obtain ⟨k, A1, c1, es, rfl, rfl, ghk, ghe, gB1, gX1, gZ1, gQ1, gO1⟩ := hrel
    have B1 := Lib.hid gB1
    have X1 := Lib.hid gX1
    have Z1 := Lib.hid gZ1
    have Q1 := Lib.hid gQ1
    have O1 := Lib.hid gO1
    have hk := Lib.hid ghk
    have he := Lib.hid ghe
    clear gB1 gX1 gZ1 gQ1 gO1 ghk ghe
    have LTX := Lib.hid X1.out.lt
    have LTZ := Lib.hid Z1.out.lt
    have hk := hk.out
    by_cases hlt : k < n
    · obtain ⟨b, off, y, hA, hy, h1, h2, A', n', c', hd, ce0, ce1, ce2, ce3⟩ := at_ Q1.out hlt
      have HY := Lib.hid hy
      have D1 := Lib.hid hd
      clear hy hd
      subst hA
      have hlt2 : (k : Int) < n := by omega
      have HT := Lib.hid (take_snoc HY.out)
      have HLN := Lib.hid (show n' ≤ 67108864 from (show y.2.2.2.length = n' from D1.out.len) ▸ HBD.out y (List.mem_of_getElem? HY.out))
      go_wp2_with fail
      clear ce0 ce1 ce2 ce3
      obtain ⟨bv, hbb⟩ : ∃ b, wr.heap.size = b := ⟨_, rfl⟩
      generalize hW : wr.alloc (.cells #[.int .i64 y.1, .int .i64 y.2.1, .int .i64 y.2.2.1, .slice A' n' c'] 28) = w2
      have LV := Lib.hid (show w.heap.size ≤ bv ∧ w.heap.size < bv ∧ w.heap.size + 1 < bv ∧ hi ≤ bv ∧ wr.heap.size ≤ bv ∧ hi ≤ bv by have h1 := B1.out.size; have h2X := X1.out.lt; have h2Z := Z1.out.lt; have h2Q := Q1.out.hi_; have h2O := O1.out.hi_; have h2D := D1.out.hi_; have h3 := hbb; omega)
      have V2 := Lib.hid (show Bx 28 w2 bv #[.int .i64 y.1, .int .i64 y.2.1, .int .i64 y.2.2.1, .slice A' n' c'] by rw [← hW, ← hbb]; exact Bx.made _ _ _)
      have hb : Below wr.heap.size wr w2 := by rw [← hW]; exact below_box _ _
      (try rw [hbb])
      clear hW hbb
      have SS2 := Lib.hid hb.size
      have B2 := Lib.hid (B1.out.trans (hb.mono B1.out.size))
      have X2 := Lib.hid (X1.out.below hb)
      have Z2 := Lib.hid (Z1.out.below hb)
      have Q2 := Lib.hid (Q1.out.below hb)
      have O2 := Lib.hid (O1.out.below hb)
      have D2 := Lib.hid (D1.out.below hb)
      clear hb B1 X1 Z1 Q1 O1 D1
      (with_reducible refine (implCm y A' n' c' _ _ _ D2.out HLN.out).mono ?_)
      rintro e w3 hp
      obtain ⟨A2, n2, c2, rfl, ho2, hb⟩ := x_parts hp
      clear hp
      have SS3 := Lib.hid hb.size
      have B3 := Lib.hid (B2.out.trans (hb.mono B2.out.size))
      have X3 := Lib.hid (X2.out.below hb)
      have Z3 := Lib.hid (Z2.out.below hb)
      have V3 := Lib.hid (V2.out.below hb)
      have Q3 := Lib.hid (Q2.out.below hb)
      have O3 := Lib.hid (O2.out.below hb)
      have D3 := Lib.hid (D2.out.below hb)
      clear hb B2 X2 Z2 V2 Q2 O2 D2
      have H3 := Lib.hid ho2
      clear ho2
      go_wp2_with (at_builtin; refine list_push w3 rfl _ _ 24 rfl Try.underlying24 HZ.out.1 HZ.out.2.1 HZ.out.2.2.1 (by rw [HZ.out.2.2.2]; omega) rfl rfl rfl O3.out ⟨y, A2, n2, c2⟩ H3.out (by have hlV := LV.out; have hs0 := LTX.out; have hs1 := LTZ.out; have hs2 := SS2.out; have hs3 := SS3.out; first | omega | (simp <;> omega)) (by have hlV := LV.out; have hs0 := LTX.out; have hs1 := LTZ.out; have hs2 := SS2.out; have hs3 := SS3.out; first | omega | (simp <;> omega)) (by omega) (by have hlV := LV.out; have hs0 := LTX.out; have hs1 := LTZ.out; have hs2 := SS2.out; have hs3 := SS3.out; first | omega | (simp <;> omega)) ?_; intro A3 c3 w4 ho hg; have B4 := Lib.hid (below_grown B3.out hg (fun q hq => by have hlV := LV.out; have hs0 := LTX.out; have hs1 := LTZ.out; have hs2 := SS2.out; have hs3 := SS3.out; have := (O3.out.lo_ hq).1; omega) B3.out.size); have X4 := Lib.hid (grown_bx X3.out hg (rgp.ne_type X3.out O3.out (by decide))); have Z4 := Lib.hid (grown_bx Z3.out hg (rgp.ne_type Z3.out O3.out (by decide))); have V4 := Lib.hid (grown_bx V3.out hg (fun e => by have hlV := LV.out; have hs0 := LTX.out; have hs1 := LTZ.out; have hs2 := SS2.out; have hs3 := SS3.out; have := O3.out.lo_ e.symm; omega)); have Q4 := Lib.hid (rq_grown Q3.out O3.out hg (by have hlV := LV.out; have hs0 := LTX.out; have hs1 := LTZ.out; have hs2 := SS2.out; have hs3 := SS3.out; first | omega | (simp <;> omega))); have H4 := Lib.hid (ow_grown O3.out hg H3.out); have SS4 := Lib.hid hg.size; clear B3 X3 Z3 V3 Q3 O3 H3; have O4 := Lib.hid ho; clear ho hg)
      go_roundw
      case rel => exact ⟨k + 1, A3, c3, _, rfl, by go_num, by omega, by rw [List.map_append, he.out, HT.out]; rfl, B4.out, X4.out, Z4.out, Q4.out, O4.out⟩
      case measure => simp [intOf]; omega
    · have hlt2 : ¬ (k : Int) < n := by omega
      obtain rfl : n = k := by omega
      have HF := Lib.hid (show es.map (·.x) = ms by rw [he.out]; exact List.take_of_length_le (by rw [Q1.out.len]; exact Nat.le_refl _))
      have cX0 : wr.cell? ⟨w.heap.size, 0, none⟩ = some (.slice A n cap) := X1.out.cell 0
      have cX1 : wr.cell? ⟨w.heap.size, 1, none⟩ = some (.int .i64 d) := X1.out.cell 1
      have fX0 : wr.frozen? ⟨w.heap.size, 0, none⟩ = false := X1.out.free 0
      have cZ0 : wr.cell? ⟨w.heap.size + 1, 0, none⟩ = some (.slice none 0 0) := Z1.out.cell 0
      have cZ1 : wr.cell? ⟨w.heap.size + 1, 1, none⟩ = some (.int .i64 0) := Z1.out.cell 1
      have fZ0 : wr.frozen? ⟨w.heap.size + 1, 0, none⟩ = false := Z1.out.free 0
      have fZ1 : wr.frozen? ⟨w.heap.size + 1, 1, none⟩ = false := Z1.out.free 1
      go_wp2_with fail
      (try simp only [Exit.inBlock, Exit.then])
      refine bodyPost_ret (v := qV A1 n c1 d) ?_ rfl ⟨A1, n, c1, rfl, ⟨es, HF.out, ?_⟩, ?_⟩
      · rw [results_cell1 rfl]
        go_simp
      · exact ((O1.out).same (by simp [World.setCell]) (fun b h1 _ => by rw [Below.heap_setCell _ _ _ _ (show b ≠ w.heap.size + 1 by omega), Below.heap_setCell _ _ _ _ (show b ≠ w.heap.size + 1 by omega), Below.heap_setCell _ _ _ _ (show b ≠ w.heap.size by omega)])).up.down (by omega)
      · exact (((B1.out.setCell (p := ⟨w.heap.size, 0, none⟩) (by show w.heap.size ≤ w.heap.size; omega) _).setCell (p := ⟨w.heap.size + 1, 0, none⟩) (by show w.heap.size ≤ w.heap.size + 1; omega) _).setCell (p := ⟨w.heap.size + 1, 1, none⟩) (by show w.heap.size ≤ w.heap.size + 1; omega) _)
set_option maxRecDepth 100000 in
set_option maxHeartbeats 4000000 in
theorem specCq (ms : List Msg) (d : Int) (A : Option Addr) (n cap lo hi : Nat) (hn : n ≤ 67108864) (hbd : ∀ y ∈ ms, y.2.2.2.length ≤ 67108864) (w : World) (h : Rq msg w lo hi A n cap ms) :
    Calls Try.prog 109 #[qV A n cap d] w (QPost (ms, d) w) := by
  obtain ⟨i0, hi0, hz0, hz1, hz2⟩ := info_parts infoM
  have HZ := Lib.hid (And.intro hi0 (And.intro hz0 (And.intro hz1 hz2)))
  clear hi0 hz0 hz1 hz2
  have QW := Lib.hid h
  have hqh := h.hi_
  have hqc := h.cap_
  have HBD := Lib.hid hbd
  clear h hbd
  go_enter Try.func109, Try.ntmps109
  go_wp2_with fail
  obtain ⟨w0, hW⟩ : ∃ w0, ((w.alloc (.cells #[.slice A n cap, .int .i64 d] 26)).alloc (.cells #[.slice none 0 0, .int .i64 0] 26)).alloc (.cells #[.slice none 0 0, .int .i64 d] 26) = w0 := ⟨_, rfl⟩
  rw [hW]
  have B0 := Lib.hid (show Below w.heap.size w w0 by rw [← hW]; exact (((Below.refl _ _).alloc (by simp <;> omega) _).alloc (by simp <;> omega) _).alloc (by simp <;> omega) _)
  have X0 := Lib.hid (show Bx 26 w0 (w.heap.size) #[.slice A n cap, .int .i64 d] by
      rw [← hW]
      have hh := Bx.made 26 w #[.slice A n cap, .int .i64 d]
      exact ((hh.below (below_box _ _)).below (below_box _ _)))
  have Z0 := Lib.hid (show Bx 26 w0 (w.heap.size + 1) #[.slice none 0 0, .int .i64 0] by
      rw [← hW]
      have hh : Bx 26 ((w.alloc (.cells #[.slice A n cap, .int .i64 d] 26)).alloc (.cells #[.slice none 0 0, .int .i64 0] 26)) (w.heap.size + 1) #[.slice none 0 0, .int .i64 0] := by have hh := Bx.made 26 (w.alloc (.cells #[.slice A n cap, .int .i64 d] 26)) #[.slice none 0 0, .int .i64 0]; simpa using hh
      exact (hh.below (below_box _ _)))
  have P0 := Lib.hid (show Bx 26 w0 (w.heap.size + 1 + 1) #[.slice none 0 0, .int .i64 d] by
      rw [← hW]
      have hh : Bx 26 (((w.alloc (.cells #[.slice A n cap, .int .i64 d] 26)).alloc (.cells #[.slice none 0 0, .int .i64 0] 26)).alloc (.cells #[.slice none 0 0, .int .i64 d] 26)) (w.heap.size + 1 + 1) #[.slice none 0 0, .int .i64 d] := by have hh := Bx.made 26 ((w.alloc (.cells #[.slice A n cap, .int .i64 d] 26)).alloc (.cells #[.slice none 0 0, .int .i64 0] 26)) #[.slice none 0 0, .int .i64 d]; simpa using hh
      exact hh)
  have Q0 := Lib.hid (show Rq msg w0 lo hi A n cap ms by rw [← hW]; exact (((QW.out.below (below_box _ _)).below (below_box _ _)).below (below_box _ _)))
  clear hW
  have O0 := Lib.hid (Oe.nil_ msg w0 (w.heap.size + 1 + 1 + 1) w0.heap.size (Nat.le_refl _))
  go_loopw [4] (fun v0 wr => ∃ (k : Nat) (A1 : Option Addr) (c1 : Nat) (es : List (El Msg)), v0 = .int .i64 ((k : Int)) ∧ (k ≤ n) ∧ (es.map (·.x) = ms.take k) ∧ Below w.heap.size w wr ∧ Bx 26 wr w.heap.size #[.slice A n cap, .int .i64 d] ∧ Bx 26 wr (w.heap.size + 1) #[.slice none 0 0, .int .i64 0] ∧ Bx 26 wr (w.heap.size + 1 + 1) #[.slice A1 k c1, .int .i64 d] ∧ Rq msg wr lo hi A n cap ms ∧ Oe msg wr (w.heap.size + 1 + 1 + 1) wr.heap.size A1 k c1 es) (fun i _ => n - (intOf i).toNat)
  case atStart => exact ⟨0, none, 0, [], rfl, by omega, by simp, B0.out, X0.out, Z0.out, P0.out, Q0.out, O0.out⟩
  case round =>
    obtain ⟨k, A1, c1, es, rfl, ghk, ghe, gB1, gX1, gZ1, gP1, gQ1, gO1⟩ := hrel
    have B1 := Lib.hid gB1
    have X1 := Lib.hid gX1
    have Z1 := Lib.hid gZ1
    have P1 := Lib.hid gP1
    have Q1 := Lib.hid gQ1
    have O1 := Lib.hid gO1
    have hk := Lib.hid ghk
    have he := Lib.hid ghe
    clear gB1 gX1 gZ1 gP1 gQ1 gO1 ghk ghe
    have LTX := Lib.hid X1.out.lt
    have LTZ := Lib.hid Z1.out.lt
    have LTP := Lib.hid P1.out.lt
    have hk := hk.out
    have cX0 : wr.cell? ⟨w.heap.size, 0, none⟩ = some (.slice A n cap) := X1.out.cell 0
    by_cases hlt : k < n
    · clear cX0
      obtain ⟨b, off, y, hA, hy, h1, h2, A', n', c', hd, ce0, ce1, ce2, ce3⟩ := at_ Q1.out hlt
      have HY := Lib.hid hy
      have D1 := Lib.hid hd
      clear hy hd
      subst hA
      have cX0 : wr.cell? ⟨w.heap.size, 0, none⟩ = some (.slice (some ⟨b, off, none⟩) n cap) := X1.out.cell 0
      have hlt2 : (k : Int) < n := by omega
      have HT := Lib.hid (take_snoc HY.out)
      have HLN := Lib.hid (show n' ≤ 67108864 from (show y.2.2.2.length = n' from D1.out.len) ▸ HBD.out y (List.mem_of_getElem? HY.out))
      go_wp2_with fail
      clear ce0 ce1 ce2 ce3
      clear cX0
      (with_reducible refine (specCm y A' n' c' _ _ _ D1.out HLN.out).mono ?_)
      rintro e w2 hp
      obtain ⟨A2, n2, c2, rfl, ho2, hb⟩ := x_parts hp
      clear hp
      have SS2 := Lib.hid hb.size
      have B2 := Lib.hid (B1.out.trans (hb.mono B1.out.size))
      have X2 := Lib.hid (X1.out.below hb)
      have Z2 := Lib.hid (Z1.out.below hb)
      have P2 := Lib.hid (P1.out.below hb)
      have Q2 := Lib.hid (Q1.out.below hb)
      have O2 := Lib.hid (O1.out.below hb)
      have D2 := Lib.hid (D1.out.below hb)
      clear hb B1 X1 Z1 P1 Q1 O1 D1
      have H2 := Lib.hid ho2
      clear ho2
      go_upto_region 6 with fail
      obtain ⟨bv, hbb⟩ : ∃ b, w2.heap.size = b := ⟨_, rfl⟩
      generalize hW : w2.alloc (.cells #[.int .i64 y.1, .int .i64 y.2.1, .int .i64 y.2.2.1, .slice A2 n2 c2] 28) = w3
      have LV := Lib.hid (show w.heap.size ≤ bv ∧ w.heap.size < bv ∧ w.heap.size + 1 < bv ∧ w.heap.size + 1 + 1 < bv ∧ hi ≤ bv ∧ wr.heap.size ≤ bv ∧ w2.heap.size ≤ bv by have h1 := B2.out.size; have h2X := X2.out.lt; have h2Z := Z2.out.lt; have h2P := P2.out.lt; have h2Q := Q2.out.hi_; have h2O := O2.out.hi_; have h2H := H2.out.hi_; have h3 := hbb; omega)
      have V3 := Lib.hid (show Bx 28 w3 bv #[.int .i64 y.1, .int .i64 y.2.1, .int .i64 y.2.2.1, .slice A2 n2 c2] by rw [← hW, ← hbb]; exact Bx.made _ _ _)
      have hb : Below w2.heap.size w2 w3 := by rw [← hW]; exact below_box _ _
      (try rw [hbb])
      clear hW hbb
      have SS3 := Lib.hid hb.size
      have B3 := Lib.hid (B2.out.trans (hb.mono B2.out.size))
      have X3 := Lib.hid (X2.out.below hb)
      have Z3 := Lib.hid (Z2.out.below hb)
      have P3 := Lib.hid (P2.out.below hb)
      have Q3 := Lib.hid (Q2.out.below hb)
      have O3 := Lib.hid (O2.out.below hb)
      have H3 := Lib.hid (H2.out.below hb)
      clear hb B2 X2 Z2 P2 Q2 O2 H2
      have cP0 : w3.cell? ⟨w.heap.size + 1 + 1, 0, none⟩ = some (.slice A1 k c1) := P3.out.cell 0
      have cV0 : w3.cell? ⟨bv, 0, none⟩ = some (.int .i64 y.1) := V3.out.cell 0
      have cV1 : w3.cell? ⟨bv, 1, none⟩ = some (.int .i64 y.2.1) := V3.out.cell 1
      have cV2 : w3.cell? ⟨bv, 2, none⟩ = some (.int .i64 y.2.2.1) := V3.out.cell 2
      have cV3 : w3.cell? ⟨bv, 3, none⟩ = some (.slice A2 n2 c2) := V3.out.cell 3
      go_wp2_with (at_builtin; refine list_push w3 rfl _ _ 24 rfl Try.underlying24 HZ.out.1 HZ.out.2.1 HZ.out.2.2.1 (by rw [HZ.out.2.2.2]; omega) rfl rfl rfl O3.out ⟨y, A2, n2, c2⟩ H3.out (by have hlV := LV.out; have hs0 := LTX.out; have hs1 := LTZ.out; have hs2 := LTP.out; have hs3 := SS2.out; have hs4 := SS3.out; first | omega | (simp <;> omega)) (by have hlV := LV.out; have hs0 := LTX.out; have hs1 := LTZ.out; have hs2 := LTP.out; have hs3 := SS2.out; have hs4 := SS3.out; first | omega | (simp <;> omega)) (by omega) (by have hlV := LV.out; have hs0 := LTX.out; have hs1 := LTZ.out; have hs2 := LTP.out; have hs3 := SS2.out; have hs4 := SS3.out; first | omega | (simp <;> omega)) ?_; intro A3 c3 w4 ho hg; have B4 := Lib.hid (below_grown B3.out hg (fun q hq => by have hlV := LV.out; have hs0 := LTX.out; have hs1 := LTZ.out; have hs2 := LTP.out; have hs3 := SS2.out; have hs4 := SS3.out; have := (O3.out.lo_ hq).1; omega) B3.out.size); have X4 := Lib.hid (grown_bx X3.out hg (rgp.ne_type X3.out O3.out (by decide))); have Z4 := Lib.hid (grown_bx Z3.out hg (rgp.ne_type Z3.out O3.out (by decide))); have P4 := Lib.hid (grown_bx P3.out hg (rgp.ne_type P3.out O3.out (by decide))); have V4 := Lib.hid (grown_bx V3.out hg (fun e => by have hlV := LV.out; have hs0 := LTX.out; have hs1 := LTZ.out; have hs2 := LTP.out; have hs3 := SS2.out; have hs4 := SS3.out; have := O3.out.lo_ e.symm; omega)); have Q4 := Lib.hid (rq_grown Q3.out O3.out hg (by have hlV := LV.out; have hs0 := LTX.out; have hs1 := LTZ.out; have hs2 := LTP.out; have hs3 := SS2.out; have hs4 := SS3.out; first | omega | (simp <;> omega))); have H4 := Lib.hid (ow_grown O3.out hg H3.out); have SS4 := Lib.hid hg.size; clear B3 X3 Z3 P3 V3 Q3 O3 H3; have O4 := Lib.hid ho; clear ho hg; have cP0 : w4.cell? ⟨w.heap.size + 1 + 1, 0, none⟩ = some (.slice A1 k c1) := P4.out.cell 0; have fP0 : w4.frozen? ⟨w.heap.size + 1 + 1, 0, none⟩ = false := P4.out.free 0)
      clear cP0 cV0 cV1 cV2 cV3
      clear cP0 fP0
      have hWW : (w4.setCell ⟨w.heap.size + 1 + 1, 0, none⟩ (.slice A3 (k + 1) c3)) = (w4.setCell ⟨w.heap.size + 1 + 1, 0, none⟩ (.slice A3 (k + 1) c3)) := rfl
      obtain ⟨w5, hW⟩ : ∃ wy, (w4.setCell ⟨w.heap.size + 1 + 1, 0, none⟩ (.slice A3 (k + 1) c3)) = wy := ⟨_, rfl⟩
      rw [hW]
      clear hWW
      have B5 := Lib.hid (show Below w.heap.size w w5 by rw [← hW]; exact (B4.out.setCell (p := ⟨w.heap.size + 1 + 1, 0, none⟩) (by have hlV := LV.out; first | omega | (simp <;> omega)) _))
      have X5 := Lib.hid (show Bx 26 w5 (w.heap.size) #[.slice (some ⟨b, off, none⟩) n cap, .int .i64 d] by rw [← hW]; exact (X4.out.other (by have hlV := LV.out; first | omega | (simp <;> omega)) _ _))
      have Z5 := Lib.hid (show Bx 26 w5 (w.heap.size + 1) #[.slice none 0 0, .int .i64 0] by rw [← hW]; exact (Z4.out.other (by have hlV := LV.out; first | omega | (simp <;> omega)) _ _))
      have P5 := Lib.hid (show Bx 26 w5 (w.heap.size + 1 + 1) #[.slice A3 (k + 1) c3, .int .i64 d] by rw [← hW]; exact (P4.out.set 0 _))
      have Q5 := Lib.hid (show Rq msg w5 lo hi (some ⟨b, off, none⟩) n cap ms by rw [← hW]; exact (Q4.out.same (by simp [World.setCell]) fun b h1 h2 => by rw [Below.heap_setCell _ _ _ _ (by have hlV := LV.out; have hs0 := LTX.out; have hs1 := LTZ.out; have hs2 := LTP.out; have hs3 := SS2.out; have hs4 := SS3.out; have hs5 := SS4.out; first | omega | (simp <;> omega))]))
      have O5 := Lib.hid (show Oe msg w5 (w.heap.size + 1 + 1 + 1) w4.heap.size A3 (k + 1) c3 (es ++ [⟨y, A2, n2, c2⟩]) by rw [← hW]; exact (rgp.oe_setCell O4.out P4.out (by decide) (by decide) 0 _))
      clear hW B4 X4 Z4 P4 Q4 O4
      go_roundw
      case rel => exact ⟨k + 1, A3, c3, _, by go_num, by omega, by rw [List.map_append, he.out, HT.out]; rfl, B5.out, X5.out, Z5.out, P5.out, Q5.out, O5.out.up⟩
      case measure => simp [intOf]; omega
    · have hlt2 : ¬ (k : Int) < n := by omega
      obtain rfl : n = k := by omega
      have HF := Lib.hid (show es.map (·.x) = ms by rw [he.out]; exact List.take_of_length_le (by rw [Q1.out.len]; exact Nat.le_refl _))
      have cP0 : wr.cell? ⟨w.heap.size + 1 + 1, 0, none⟩ = some (.slice A1 n c1) := P1.out.cell 0
      have cP1 : wr.cell? ⟨w.heap.size + 1 + 1, 1, none⟩ = some (.int .i64 d) := P1.out.cell 1
      have cZ0 : wr.cell? ⟨w.heap.size + 1, 0, none⟩ = some (.slice none 0 0) := Z1.out.cell 0
      have cZ1 : wr.cell? ⟨w.heap.size + 1, 1, none⟩ = some (.int .i64 0) := Z1.out.cell 1
      have fZ0 : wr.frozen? ⟨w.heap.size + 1, 0, none⟩ = false := Z1.out.free 0
      have fZ1 : wr.frozen? ⟨w.heap.size + 1, 1, none⟩ = false := Z1.out.free 1
      go_wp2_with fail
      (try simp only [Exit.inBlock, Exit.then])
      refine bodyPost_ret (v := qV A1 n c1 d) ?_ rfl ⟨A1, n, c1, rfl, ⟨es, HF.out, ?_⟩, ?_⟩
      · rw [results_cell1 rfl]
        go_simp
      · exact ((O1.out).same (by simp [World.setCell]) (fun b h1 _ => by rw [Below.heap_setCell _ _ _ _ (show b ≠ w.heap.size + 1 by omega), Below.heap_setCell _ _ _ _ (show b ≠ w.heap.size + 1 by omega)])).up.down (by omega)
      · exact ((B1.out.setCell (p := ⟨w.heap.size + 1, 0, none⟩) (by show w.heap.size ≤ w.heap.size + 1; omega) _).setCell (p := ⟨w.heap.size + 1, 1, none⟩) (by show w.heap.size ≤ w.heap.size + 1; omega) _)
end Go.Proofs.Ytjmenbpalihnnaa.mq
end

section
namespace Go.Proofs.Ytjmenbpalihnnaa.stw
open Go.RowKit sl harn bx
set_option linter.unusedVariables false

theorem wp_load_bx {P : Program} {o : Oper} {a : Act} {w : World} {K : Act → World → Prop} {Q : Exit → Act → World → Prop} (ty : TypeId) (x : Operand) (ho : o.op = .load ty x)
    (b : Nat) (hx : a.eval x = .pointer (some ⟨b, 0, none⟩)) (T : TypeId) (cur : Array Value) (hX : Bx T w b cur) {d : TypeDesc} (hu : P.underlying ty = some d) (hd : d.isRow = true) (hi : (P.info? ty).map (·.size) = some cur.size)
    (h : K (a.put o.dst (.agg cur)) w) : Oper.wp P o a w K Q := by
  refine wp_load_mid ty x ho b 0 hx cur.toList d (range_of hX) hu hd (by simpa using hi) ?_
  simpa using h
end Go.Proofs.Ytjmenbpalihnnaa.stw
end

section
namespace Go.Proofs.Ytjmenbpalihnnaa.mq
open Go.RowKit sl harn bx mrw
set_option linter.unusedVariables false
set_option linter.unusedSimpArgs false

theorem drp_wf {t : Int} {ms : List Msg} {d : Int} (hd : (Lit.int .i64 d).wf = true) : ∀ k, (Lit.int .i64 (drp t ms d k)).wf = true
  | 0 => hd
  | k + 1 => by
    unfold drp
    split
    · exact wf_wrap .i64 _
    · exact drp_wf hd k
set_option maxRecDepth 100000 in
set_option maxHeartbeats 4000000 in
theorem implXp (t : Int) (ms : List Msg) (d : Int) (A : Option Addr) (n cap lo hi : Nat) (hn : n ≤ 67108864) (hbd : ∀ y ∈ ms, y.2.2.2.length ≤ 67108864) (w : World) (h : Rq msg w lo hi A n cap ms) :
    Calls Try.prog 25 #[qV A n cap d, .int .i64 t] w (QPost (keep t ms n, drp t ms d n) w) := by
  obtain ⟨i0, hi0, hz0, hz1, hz2⟩ := info_parts infoM
  have HZ := Lib.hid (And.intro hi0 (And.intro hz0 (And.intro hz1 hz2)))
  clear hi0 hz0 hz1 hz2
  have QW := Lib.hid h
  have hqh := h.hi_
  have hqc := h.cap_
  have HBD := Lib.hid hbd
  clear h hbd
  go_enter Try.func25, Try.ntmps25
  go_wp2_with fail
  obtain ⟨w0, hW⟩ : ∃ w0, (((w.alloc (.cells #[.slice A n cap, .int .i64 d] 26)).alloc (.cells #[.slice none 0 0, .int .i64 0] 26)).alloc (.cells #[] 28)).alloc (.cells #[.slice (some ⟨w.heap.size + 1 + 1, 0, none⟩) 0 0, .int .i64 d] 26) = w0 := ⟨_, rfl⟩
  rw [hW]
  have B0 := Lib.hid (show Below w.heap.size w w0 by rw [← hW]; exact ((((Below.refl _ _).alloc (by simp <;> omega) _).alloc (by simp <;> omega) _).alloc (by simp <;> omega) _).alloc (by simp <;> omega) _)
  have X0 := Lib.hid (show Bx 26 w0 (w.heap.size) #[.slice A n cap, .int .i64 d] by
      rw [← hW]
      have hh := Bx.made 26 w #[.slice A n cap, .int .i64 d]
      exact (((hh.below (below_box _ _)).below (below_box _ _)).below (below_box _ _)))
  have Z0 := Lib.hid (show Bx 26 w0 (w.heap.size + 1) #[.slice none 0 0, .int .i64 0] by
      rw [← hW]
      have hh : Bx 26 ((w.alloc (.cells #[.slice A n cap, .int .i64 d] 26)).alloc (.cells #[.slice none 0 0, .int .i64 0] 26)) (w.heap.size + 1) #[.slice none 0 0, .int .i64 0] := by have hh := Bx.made 26 (w.alloc (.cells #[.slice A n cap, .int .i64 d] 26)) #[.slice none 0 0, .int .i64 0]; simpa using hh
      exact ((hh.below (below_box _ _)).below (below_box _ _)))
  have E0 := Lib.hid (show Bx 28 w0 (w.heap.size + 1 + 1) #[] by
      rw [← hW]
      have hh : Bx 28 (((w.alloc (.cells #[.slice A n cap, .int .i64 d] 26)).alloc (.cells #[.slice none 0 0, .int .i64 0] 26)).alloc (.cells #[] 28)) (w.heap.size + 1 + 1) #[] := by have hh := Bx.made 28 ((w.alloc (.cells #[.slice A n cap, .int .i64 d] 26)).alloc (.cells #[.slice none 0 0, .int .i64 0] 26)) #[]; simpa using hh
      exact (hh.below (below_box _ _)))
  have P0 := Lib.hid (show Bx 26 w0 (w.heap.size + 1 + 1 + 1) #[.slice (some ⟨w.heap.size + 1 + 1, 0, none⟩) 0 0, .int .i64 d] by
      rw [← hW]
      have hh : Bx 26 ((((w.alloc (.cells #[.slice A n cap, .int .i64 d] 26)).alloc (.cells #[.slice none 0 0, .int .i64 0] 26)).alloc (.cells #[] 28)).alloc (.cells #[.slice (some ⟨w.heap.size + 1 + 1, 0, none⟩) 0 0, .int .i64 d] 26)) (w.heap.size + 1 + 1 + 1) #[.slice (some ⟨w.heap.size + 1 + 1, 0, none⟩) 0 0, .int .i64 d] := by have hh := Bx.made 26 (((w.alloc (.cells #[.slice A n cap, .int .i64 d] 26)).alloc (.cells #[.slice none 0 0, .int .i64 0] 26)).alloc (.cells #[] 28)) #[.slice (some ⟨w.heap.size + 1 + 1, 0, none⟩) 0 0, .int .i64 d]; simpa using hh
      exact hh)
  have Q0 := Lib.hid (show Rq msg w0 lo hi A n cap ms by rw [← hW]; exact ((((QW.out.below (below_box _ _)).below (below_box _ _)).below (below_box _ _)).below (below_box _ _)))
  clear hW
  have O0 := Lib.hid (show Oe msg w0 (w.heap.size + 1 + 1) w0.heap.size (some ⟨w.heap.size + 1 + 1, 0, none⟩) 0 0 [] from oe_box (S := msg) E0.out)
  clear E0
  go_loopw [15] (fun v0 wr => ∃ (k : Nat) (m : Nat) (u : Int) (A1 : Option Addr) (c1 : Nat) (es : List (El Msg)), v0 = .int .i64 ((k : Int)) ∧ (k ≤ n) ∧ (m = (keep t ms k).length ∧ m ≤ k) ∧ (u = drp t ms d k) ∧ (es.map (·.x) = keep t ms k) ∧ Below w.heap.size w wr ∧ Bx 26 wr w.heap.size #[.slice A n cap, .int .i64 d] ∧ Bx 26 wr (w.heap.size + 1) #[.slice none 0 0, .int .i64 0] ∧ Bx 26 wr (w.heap.size + 1 + 1 + 1) #[.slice A1 m c1, .int .i64 u] ∧ Rq msg wr lo hi A n cap ms ∧ Oe msg wr (w.heap.size + 1 + 1) wr.heap.size A1 m c1 es) (fun i _ => n - (intOf i).toNat)
  case atStart => exact ⟨0, 0, d, (some ⟨w.heap.size + 1 + 1, 0, none⟩), 0, [], rfl, by omega, ⟨rfl, by omega⟩, rfl, rfl, B0.out, X0.out, Z0.out, P0.out, Q0.out, O0.out⟩
  case round =>
    obtain ⟨k, m, u, A1, c1, es, rfl, ghk, ghm, ghu, ghe, gB1, gX1, gZ1, gP1, gQ1, gO1⟩ := hrel
    have B1 := Lib.hid gB1
    have X1 := Lib.hid gX1
    have Z1 := Lib.hid gZ1
    have P1 := Lib.hid gP1
    have Q1 := Lib.hid gQ1
    have O1 := Lib.hid gO1
    have hk := Lib.hid ghk
    have hm := Lib.hid ghm
    have hu := Lib.hid ghu
    have he := Lib.hid ghe
    clear gB1 gX1 gZ1 gP1 gQ1 gO1 ghk ghm ghu ghe
    have LTX := Lib.hid X1.out.lt
    have LTZ := Lib.hid Z1.out.lt
    have LTP := Lib.hid P1.out.lt
    have hk := hk.out
    have hml := hm.out.2
    by_cases hlt : k < n
    · obtain ⟨b, off, y, hA, hy, h1, h2, A', n', c', hd, ce0, ce1, ce2, ce3⟩ := at_ Q1.out hlt
      have HY := Lib.hid hy
      have D1 := Lib.hid hd
      clear hy hd
      subst hA
      have hlt2 : (k : Int) < n := by omega
      have HG := Lib.hid (getD_of HY.out)
      have HLN := Lib.hid (show n' ≤ 67108864 from (show y.2.2.2.length = n' from D1.out.len) ▸ HBD.out y (List.mem_of_getElem? HY.out))
      by_cases hexp : y.2.2.1 < t
      · have hd1 : decide (y.2.2.1 < t) = true := decide_eq_true hexp
        have HK := Lib.hid (show keep t ms (k + 1) = keep t ms k by rw [keep, HG.out, if_pos hexp])
        obtain ⟨u2, hu2⟩ : ∃ u2, IntKind.i64.wrap (u + 1) = u2 := ⟨_, rfl⟩
        have HU := Lib.hid (show u2 = drp t ms d (k + 1) by rw [drp, HG.out, if_pos hexp, ← hu2, hu.out])
        go_upto_region 6 with fail
        clear ce0 ce1 ce2 ce3
        obtain ⟨bv, hbb⟩ : ∃ b, wr.heap.size = b := ⟨_, rfl⟩
        generalize hW : wr.alloc (.cells #[.int .i64 y.1, .int .i64 y.2.1, .int .i64 y.2.2.1, .slice A' n' c'] 28) = w2
        have LV := Lib.hid (show w.heap.size ≤ bv ∧ w.heap.size < bv ∧ w.heap.size + 1 < bv ∧ w.heap.size + 1 + 1 + 1 < bv ∧ hi ≤ bv ∧ wr.heap.size ≤ bv ∧ hi ≤ bv by have h1 := B1.out.size; have h2X := X1.out.lt; have h2Z := Z1.out.lt; have h2P := P1.out.lt; have h2Q := Q1.out.hi_; have h2O := O1.out.hi_; have h2D := D1.out.hi_; have h3 := hbb; omega)
        have V2 := Lib.hid (show Bx 28 w2 bv #[.int .i64 y.1, .int .i64 y.2.1, .int .i64 y.2.2.1, .slice A' n' c'] by rw [← hW, ← hbb]; exact Bx.made _ _ _)
        have hb : Below wr.heap.size wr w2 := by rw [← hW]; exact below_box _ _
        (try rw [hbb])
        clear hW hbb
        have SS2 := Lib.hid hb.size
        have B2 := Lib.hid (B1.out.trans (hb.mono B1.out.size))
        have X2 := Lib.hid (X1.out.below hb)
        have Z2 := Lib.hid (Z1.out.below hb)
        have P2 := Lib.hid (P1.out.below hb)
        have Q2 := Lib.hid (Q1.out.below hb)
        have O2 := Lib.hid (O1.out.below hb)
        have D2 := Lib.hid (D1.out.below hb)
        clear hb B1 X1 Z1 P1 Q1 O1 D1
        have cP1 : w2.cell? ⟨w.heap.size + 1 + 1 + 1, 1, none⟩ = some (.int .i64 u) := P2.out.cell 1
        have fP1 : w2.frozen? ⟨w.heap.size + 1 + 1 + 1, 1, none⟩ = false := P2.out.free 1
        go_wp2_with fail
        clear cP1 fP1
        have hWW : (w2.setCell ⟨w.heap.size + 1 + 1 + 1, 1, none⟩ (.int .i64 u2)) = (w2.setCell ⟨w.heap.size + 1 + 1 + 1, 1, none⟩ (.int .i64 u2)) := rfl
        obtain ⟨w3, hW⟩ : ∃ wy, (w2.setCell ⟨w.heap.size + 1 + 1 + 1, 1, none⟩ (.int .i64 u2)) = wy := ⟨_, rfl⟩
        rw [hW]
        clear hWW
        have B3 := Lib.hid (show Below w.heap.size w w3 by rw [← hW]; exact (B2.out.setCell (p := ⟨w.heap.size + 1 + 1 + 1, 1, none⟩) (by have hlV := LV.out; first | omega | (simp <;> omega)) _))
        have X3 := Lib.hid (show Bx 26 w3 (w.heap.size) #[.slice (some ⟨b, off, none⟩) n cap, .int .i64 d] by rw [← hW]; exact (X2.out.other (by have hlV := LV.out; first | omega | (simp <;> omega)) _ _))
        have Z3 := Lib.hid (show Bx 26 w3 (w.heap.size + 1) #[.slice none 0 0, .int .i64 0] by rw [← hW]; exact (Z2.out.other (by have hlV := LV.out; first | omega | (simp <;> omega)) _ _))
        have P3 := Lib.hid (show Bx 26 w3 (w.heap.size + 1 + 1 + 1) #[.slice A1 m c1, .int .i64 u2] by rw [← hW]; exact (P2.out.set 1 _))
        have V3 := Lib.hid (show Bx 28 w3 (bv) #[.int .i64 y.1, .int .i64 y.2.1, .int .i64 y.2.2.1, .slice A' n' c'] by rw [← hW]; exact (V2.out.other (by have hlV := LV.out; first | omega | (simp <;> omega)) _ _))
        have Q3 := Lib.hid (show Rq msg w3 lo hi (some ⟨b, off, none⟩) n cap ms by rw [← hW]; exact (Q2.out.same (by simp [World.setCell]) fun b h1 h2 => by rw [Below.heap_setCell _ _ _ _ (by have hlV := LV.out; have hs0 := LTX.out; have hs1 := LTZ.out; have hs2 := LTP.out; have hs3 := SS2.out; first | omega | (simp <;> omega))]))
        have O3 := Lib.hid (show Oe msg w3 (w.heap.size + 1 + 1) wr.heap.size A1 m c1 es by rw [← hW]; exact (rgp.oe_setCell O2.out P2.out (by decide) (by decide) 1 _))
        clear hW B2 X2 Z2 P2 V2 Q2 O2
        go_roundw
        case rel => exact ⟨k + 1, m, u2, A1, c1, es, by go_num, by omega, ⟨by rw [HK.out]; exact hm.out.1, by omega⟩, HU.out, by rw [HK.out]; exact he.out, B3.out, X3.out, Z3.out, P3.out, Q3.out, O3.out.up⟩
        case measure => simp [intOf]; omega
      · have hd1 : decide (y.2.2.1 < t) = false := decide_eq_false hexp
        have HK := Lib.hid (show keep t ms (k + 1) = keep t ms k ++ [y] by rw [keep, HG.out, if_neg hexp])
        have HU := Lib.hid (show u = drp t ms d (k + 1) by rw [drp, HG.out, if_neg hexp, hu.out])
        go_upto_region 7 with fail
        clear ce0 ce1 ce2 ce3
        obtain ⟨bv, hbb⟩ : ∃ b, wr.heap.size = b := ⟨_, rfl⟩
        generalize hW : wr.alloc (.cells #[.int .i64 y.1, .int .i64 y.2.1, .int .i64 y.2.2.1, .slice A' n' c'] 28) = w2
        have LV := Lib.hid (show w.heap.size ≤ bv ∧ w.heap.size < bv ∧ w.heap.size + 1 < bv ∧ w.heap.size + 1 + 1 + 1 < bv ∧ hi ≤ bv ∧ wr.heap.size ≤ bv ∧ hi ≤ bv by have h1 := B1.out.size; have h2X := X1.out.lt; have h2Z := Z1.out.lt; have h2P := P1.out.lt; have h2Q := Q1.out.hi_; have h2O := O1.out.hi_; have h2D := D1.out.hi_; have h3 := hbb; omega)
        have V2 := Lib.hid (show Bx 28 w2 bv #[.int .i64 y.1, .int .i64 y.2.1, .int .i64 y.2.2.1, .slice A' n' c'] by rw [← hW, ← hbb]; exact Bx.made _ _ _)
        have hb : Below wr.heap.size wr w2 := by rw [← hW]; exact below_box _ _
        (try rw [hbb])
        clear hW hbb
        have SS2 := Lib.hid hb.size
        have B2 := Lib.hid (B1.out.trans (hb.mono B1.out.size))
        have X2 := Lib.hid (X1.out.below hb)
        have Z2 := Lib.hid (Z1.out.below hb)
        have P2 := Lib.hid (P1.out.below hb)
        have Q2 := Lib.hid (Q1.out.below hb)
        have O2 := Lib.hid (O1.out.below hb)
        have D2 := Lib.hid (D1.out.below hb)
        clear hb B1 X1 Z1 P1 Q1 O1 D1
        refine rgp.region_tailE (rgp.EA 5 reg.Bel (rgp.Ap msg (w.heap.size + 1 + 1) wr.heap.size A1 m c1 es)) 7 36 [some [], some [(0, 27)], some [], some [(2, 29)], some [(3, 30)], some [(1, 28), (4, 31)], some [], none] [(0, 27), (1, 28), (2, 29), (3, 30), (4, 31), (5, 32), (6, 33)]
          (fun w' => Below w.heap.size w w' ∧ Bx 26 w' (w.heap.size) #[.slice (some ⟨b, off, none⟩) n cap, .int .i64 d] ∧ Bx 26 w' (w.heap.size + 1) #[.slice none 0 0, .int .i64 0] ∧ Bx 26 w' (w.heap.size + 1 + 1 + 1) #[.slice A1 m c1, .int .i64 u] ∧ Bx 28 w' (bv) #[.int .i64 y.1, .int .i64 y.2.1, .int .i64 y.2.2.1, .slice A' n' c'] ∧ Rq msg w' lo hi (some ⟨b, off, none⟩) n cap ms ∧ Oe msg w' (w.heap.size + 1 + 1) wr.heap.size A1 m c1 es ∧ Rd .u8 w' (lo) (hi) A' n' c' y.2.2.2 ∧ True)
          (rgp.RA 5 [rgp.is (.pointer (some ⟨w.heap.size + 1 + 1 + 1, 0, none⟩)), rgp.is (.slice A1 m c1), rgp.is (.agg #[.int .i64 y.1, .int .i64 y.2.1, .int .i64 y.2.2.1, .slice A' n' c']), rgp.elv msg (w.heap.size + 1 + 1) wr.heap.size A1 m c1 es y (fun A n c => mV y A n c), rgp.onev msg (w.heap.size + 1 + 1) wr.heap.size A1 m c1 es y (fun A n c => #[.int .i64 y.1, .int .i64 y.2.1, .int .i64 y.2.2.1, .slice A n c]), rgp.val fun _ => True, rgp.is (.pointer (some ⟨w.heap.size + 1 + 1 + 1, 0, none⟩))] (rgp.newv msg (w.heap.size + 1 + 1) m es y))
          (by kernel_rfl) rfl (by kernel_rfl) (by kernel_rfl) rfl
          (fun i w1 w2 hc he => rgp.ea_cases he (fun hb => (fun w1 w2 hc hb => ⟨hc.1.trans (hb.mono hc.1.size), hc.2.1.below hb, hc.2.2.1.below hb, hc.2.2.2.1.below hb, hc.2.2.2.2.1.below hb, hc.2.2.2.2.2.1.below hb, hc.2.2.2.2.2.2.1.below hb, hc.2.2.2.2.2.2.2.1.below hb, trivial⟩) w1 w2 hc hb) (fun h2 => ⟨below_grown hc.1 h2.2.1 (fun q hq => by have hlV := LV.out; have hs0 := LTX.out; have hs1 := LTZ.out; have hs2 := LTP.out; have hs3 := SS2.out; have := (h2.1.lo_ hq).1; omega) hc.1.size, grown_bx hc.2.1 h2.2.1 (rgp.ne_type hc.2.1 h2.1 (by decide)), grown_bx hc.2.2.1 h2.2.1 (rgp.ne_type hc.2.2.1 h2.1 (by decide)), grown_bx hc.2.2.2.1 h2.2.1 (rgp.ne_type hc.2.2.2.1 h2.1 (by decide)), grown_bx hc.2.2.2.2.1 h2.2.1 (fun e => by have hlV := LV.out; have hs0 := LTX.out; have hs1 := LTZ.out; have hs2 := LTP.out; have hs3 := SS2.out; have := h2.1.lo_ e.symm; omega), rq_grown hc.2.2.2.2.2.1 h2.1 h2.2.1 (by have hlV := LV.out; have hs0 := LTX.out; have hs1 := LTZ.out; have hs2 := LTP.out; have hs3 := SS2.out; first | omega | (simp <;> omega)), h2.2.2, rd_grown h2.1 h2.2.1 hc.2.2.2.2.2.2.2.1 (by have hlV := LV.out; have hs0 := LTX.out; have hs1 := LTZ.out; have hs2 := LTP.out; have hs3 := SS2.out; first | omega | (simp <;> omega)), trivial⟩))
          (rgp.ra_keep rgp.newv_keep) (⟨own.below_drew B2.out, X2.out.same rfl, Z2.out.same rfl, P2.out.same rfl, V2.out.same rfl, Q2.out.same (Nat.le_refl _) (fun _ _ _ => rfl), O2.out.same (Nat.le_refl _) (fun _ _ _ => rfl), own.rd_drew D2.out, trivial⟩) (by kernel_rfl) ⟨?_, ?_, ?_, ?_, ?_, ?_, ?_, trivial⟩ ?_
        · refine fun w8 hc  K hK => ?_
          (try simp only [Act.put, List.setIfInBounds_toArray, List.set_cons_zero, List.set_cons_succ])
          go_simp
          exact hK (.pointer (some ⟨w.heap.size + 1 + 1 + 1, 0, none⟩)) _ (rgp.ra1 rfl rfl) (rgp.ea1 rfl (Below.refl _ _))
        · refine fun w8 hc v0 h0 K hK => ?_
          have h0 := rgp.ra1_out rfl h0
          obtain rfl : v0 = .pointer (some ⟨w.heap.size + 1 + 1 + 1, 0, none⟩) := h0
          (try simp only [Act.put, List.setIfInBounds_toArray, List.set_cons_zero, List.set_cons_succ])
          go_simp
          have c0 : w8.cell? ⟨w.heap.size + 1 + 1 + 1, 0, none⟩ = some (.slice A1 m c1) := hc.2.2.2.1.cell 0
          go_simp
          exact hK (.slice A1 m c1) _ (rgp.ra1 rfl rfl) (rgp.ea1 rfl (Below.refl _ _))
        · refine fun w8 hc  K hK => ?_
          (try simp only [Act.put, List.setIfInBounds_toArray, List.set_cons_zero, List.set_cons_succ])
          rw [if_pos (by rfl)]
          refine stw.wp_load_bx 28 _ rfl (bv) rfl 28 _ hc.2.2.2.2.1 Try.underlying28 rfl szM ?_
          exact hK _ _ (rgp.ra1 rfl rfl) (rgp.ea1 rfl (Below.refl _ _))
        · refine fun w8 hc v2 h2 K hK => ?_
          have h2 := rgp.ra1_out rfl h2
          obtain rfl : v2 = .agg #[.int .i64 y.1, .int .i64 y.2.1, .int .i64 y.2.2.1, .slice A' n' c'] := h2
          (try simp only [Act.put, List.setIfInBounds_toArray, List.set_cons_zero, List.set_cons_succ])
          go_simp
          (with_reducible refine (implCm y A' n' c' _ _ _ hc.2.2.2.2.2.2.2.1 HLN.out).mono ?_)
          rintro e w3 hp
          obtain ⟨A2, n2, c2, rfl, ho2, hb⟩ := x_parts hp
          exact hK _ _ (rgp.ra1 rfl ⟨A2, n2, c2, _, _, rfl, by have hA := hc.2.2.2.2.2.2.1.hi_; omega, by have hlV := LV.out; have hs0 := LTX.out; have hs1 := LTZ.out; have hs2 := LTP.out; have hs3 := SS2.out; have hA := hc.2.2.2.2.2.2.1.hi_; omega, ho2⟩) (rgp.ea1 rfl hb)
        · refine fun w8 hc v3 h3 K hK => ?_
          have h3 := rgp.ra1_out rfl h3
          obtain ⟨A2, n2, c2, lo2, hi2, rfl, hq1, hq2, hO2⟩ := h3
          (try simp only [Act.put, List.setIfInBounds_toArray, List.set_cons_zero, List.set_cons_succ])
          go_simp
          exact hK (.slice (some ⟨w8.heap.size, 0, none⟩) 1 1) _ (rgp.ra1 rfl ⟨w8.heap.size, A2, n2, c2, lo2, hi2, rfl, hc.2.2.2.2.2.2.1.hi_, Bx.made _ _ _, hq1, hq2, hO2.below (below_box _ _)⟩) (rgp.ea1 rfl (below_box _ _))
        · refine fun w8 hc v1 h1 v4 h4 K hK => ?_
          have h1 := rgp.ra1_out rfl h1
          obtain rfl : v1 = .slice A1 m c1 := h1
          have h4 := rgp.ra1_out rfl h4
          obtain ⟨q1, A1_, n1_, c1_, lo1_, hi1_, rfl, hqq, hX1, hq3, hq4, hO1⟩ := h4
          (try simp only [Act.put, List.setIfInBounds_toArray, List.set_cons_zero, List.set_cons_succ])
          rw [if_pos (by rfl)]
          (refine rgp.wp_push _ _ 24 rfl Try.underlying24 HZ.out.1 HZ.out.2.1 HZ.out.2.2.1 (by rw [HZ.out.2.2.2]; omega) rfl rfl rfl hc.2.2.2.2.2.2.1 y hX1 hO1 hq3 hq4 (by omega) (by have hA := hc.2.2.2.2.2.2.1.hi_; have hlV := LV.out; have hs0 := LTX.out; have hs1 := LTZ.out; have hs2 := LTP.out; have hs3 := SS2.out; omega) ?_)
          intro A4 c4 w4 hn4 hp4
          exact hK _ _ (rgp.ra2 hn4) (rgp.ea2 hp4)
        · refine fun w8 hc  K hK => ?_
          (try simp only [Act.put, List.setIfInBounds_toArray, List.set_cons_zero, List.set_cons_succ])
          go_simp
          exact hK (.pointer (some ⟨w.heap.size + 1 + 1 + 1, 0, none⟩)) _ (rgp.ra1 rfl rfl) (rgp.ea1 rfl (Below.refl _ _))
        refine fun w9 hc v0 h0 v1 h1 v2 h2 v3 h3 v4 h4 v5 h5 v6 h6 => ?_
        have h0 := rgp.ra1_out rfl h0
        obtain rfl : v0 = .pointer (some ⟨w.heap.size + 1 + 1 + 1, 0, none⟩) := h0
        have h1 := rgp.ra1_out rfl h1
        obtain rfl : v1 = .slice A1 m c1 := h1
        have h2 := rgp.ra1_out rfl h2
        obtain rfl : v2 = .agg #[.int .i64 y.1, .int .i64 y.2.1, .int .i64 y.2.2.1, .slice A' n' c'] := h2
        have h3 := rgp.ra1_out rfl h3
        obtain ⟨A2, n2, c2, lo2, hi2, rfl, hq1, hq2, hO2⟩ := h3
        have h4 := rgp.ra1_out rfl h4
        obtain ⟨q1, A1_, n1_, c1_, lo1_, hi1_, rfl, hqq, hX1, hq3, hq4, hO1⟩ := h4
        have h5 := rgp.ra2_out h5
        obtain ⟨A3, c3, f3, hi3, rfl, hfx, hO3⟩ := h5
        have h6 := rgp.ra1_out rfl h6
        obtain rfl : v6 = .pointer (some ⟨w.heap.size + 1 + 1 + 1, 0, none⟩) := h6
        (try simp only [reg.Obs])
        (try simp only [Act.put, List.setIfInBounds_toArray, List.set_cons_zero, List.set_cons_succ])
        simp only [List.drop_succ_cons, List.drop_zero]
        have B3 := Lib.hid hc.1
        have X3 := Lib.hid hc.2.1
        have Z3 := Lib.hid hc.2.2.1
        have P3 := Lib.hid hc.2.2.2.1
        have V3 := Lib.hid hc.2.2.2.2.1
        have Q3 := Lib.hid hc.2.2.2.2.2.1
        have D3 := Lib.hid hc.2.2.2.2.2.2.2.1
        have O3 := Lib.hid hO3.up
        clear hO3 hc B2 X2 Z2 P2 V2 Q2 O2 D2
        have fP0 : w9.frozen? ⟨w.heap.size + 1 + 1 + 1, 0, none⟩ = false := P3.out.free 0
        have cP0 : w9.cell? ⟨w.heap.size + 1 + 1 + 1, 0, none⟩ = some (.slice A1 m c1) := P3.out.cell 0
        go_wp2_with fail
        clear fP0 cP0
        have hWW : (w9.setCell ⟨w.heap.size + 1 + 1 + 1, 0, none⟩ (.slice A3 (m + 1) c3)) = (w9.setCell ⟨w.heap.size + 1 + 1 + 1, 0, none⟩ (.slice A3 (m + 1) c3)) := rfl
        obtain ⟨w4, hW⟩ : ∃ wy, (w9.setCell ⟨w.heap.size + 1 + 1 + 1, 0, none⟩ (.slice A3 (m + 1) c3)) = wy := ⟨_, rfl⟩
        rw [hW]
        clear hWW
        have B4 := Lib.hid (show Below w.heap.size w w4 by rw [← hW]; exact (B3.out.setCell (p := ⟨w.heap.size + 1 + 1 + 1, 0, none⟩) (by have hlV := LV.out; first | omega | (simp <;> omega)) _))
        have X4 := Lib.hid (show Bx 26 w4 (w.heap.size) #[.slice (some ⟨b, off, none⟩) n cap, .int .i64 d] by rw [← hW]; exact (X3.out.other (by have hlV := LV.out; first | omega | (simp <;> omega)) _ _))
        have Z4 := Lib.hid (show Bx 26 w4 (w.heap.size + 1) #[.slice none 0 0, .int .i64 0] by rw [← hW]; exact (Z3.out.other (by have hlV := LV.out; first | omega | (simp <;> omega)) _ _))
        have P4 := Lib.hid (show Bx 26 w4 (w.heap.size + 1 + 1 + 1) #[.slice A3 (m + 1) c3, .int .i64 u] by rw [← hW]; exact (P3.out.set 0 _))
        have V4 := Lib.hid (show Bx 28 w4 (bv) #[.int .i64 y.1, .int .i64 y.2.1, .int .i64 y.2.2.1, .slice A' n' c'] by rw [← hW]; exact (V3.out.other (by have hlV := LV.out; first | omega | (simp <;> omega)) _ _))
        have Q4 := Lib.hid (show Rq msg w4 lo hi (some ⟨b, off, none⟩) n cap ms by rw [← hW]; exact (Q3.out.same (by simp [World.setCell]) fun b h1 h2 => by rw [Below.heap_setCell _ _ _ _ (by have hlV := LV.out; have hs0 := LTX.out; have hs1 := LTZ.out; have hs2 := LTP.out; have hs3 := SS2.out; first | omega | (simp <;> omega))]))
        have O4 := Lib.hid (show Oe msg w4 (w.heap.size + 1 + 1) w9.heap.size A3 (m + 1) c3 (es ++ [f3]) by rw [← hW]; exact (rgp.oe_setCell O3.out P3.out (by decide) (by decide) 0 _))
        have D4 := Lib.hid (show Rd .u8 w4 (lo) (hi) A' n' c' y.2.2.2 by rw [← hW]; exact (D3.out.same (by simp [World.setCell]) fun b h1 h2 => by rw [Below.heap_setCell _ _ _ _ (by have hlV := LV.out; have hs0 := LTX.out; have hs1 := LTZ.out; have hs2 := LTP.out; have hs3 := SS2.out; first | omega | (simp <;> omega))]))
        clear hW B3 X3 Z3 P3 V3 Q3 O3 D3
        go_roundw
        case rel => exact ⟨k + 1, m + 1, u, A3, c3, _, by go_num, by omega, ⟨by rw [HK.out, List.length_append, ← hm.out.1]; rfl, by omega⟩, HU.out, by rw [List.map_append, he.out, HK.out, List.map_cons, hfx]; rfl, B4.out, X4.out, Z4.out, P4.out, Q4.out, O4.out.up⟩
        case measure => simp [intOf]; omega
    · have hlt2 : ¬ (k : Int) < n := by omega
      obtain rfl : n = k := by omega
      skip
      have cP0 : wr.cell? ⟨w.heap.size + 1 + 1 + 1, 0, none⟩ = some (.slice A1 m c1) := P1.out.cell 0
      have cP1 : wr.cell? ⟨w.heap.size + 1 + 1 + 1, 1, none⟩ = some (.int .i64 u) := P1.out.cell 1
      have cZ0 : wr.cell? ⟨w.heap.size + 1, 0, none⟩ = some (.slice none 0 0) := Z1.out.cell 0
      have cZ1 : wr.cell? ⟨w.heap.size + 1, 1, none⟩ = some (.int .i64 0) := Z1.out.cell 1
      have fZ0 : wr.frozen? ⟨w.heap.size + 1, 0, none⟩ = false := Z1.out.free 0
      have fZ1 : wr.frozen? ⟨w.heap.size + 1, 1, none⟩ = false := Z1.out.free 1
      go_wp2_with fail
      (try simp only [Exit.inBlock, Exit.then])
      refine bodyPost_ret (v := .agg #[.slice A1 m c1, .int .i64 u]) ?_ rfl ?_
      · rw [results_cell1 rfl]
        go_simp
      · refine ⟨_, _, _, by rw [← hu.out], ⟨es, he.out, ?_⟩, ?_⟩
        · exact ((O1.out).same (by simp [World.setCell]) (fun b h1 _ => by rw [Below.heap_setCell _ _ _ _ (show b ≠ w.heap.size + 1 by omega), Below.heap_setCell _ _ _ _ (show b ≠ w.heap.size + 1 by omega)])).up.down (by omega)
        · exact ((B1.out.setCell (p := ⟨w.heap.size + 1, 0, none⟩) (by show w.heap.size ≤ w.heap.size + 1; omega) _).setCell (p := ⟨w.heap.size + 1, 1, none⟩) (by show w.heap.size ≤ w.heap.size + 1; omega) _)
end Go.Proofs.Ytjmenbpalihnnaa.mq
end

section
namespace Go.Proofs.Ytjmenbpalihnnaa.mq
open Go.RowKit sl harn bx mrw
set_option linter.unusedVariables false
set_option linter.unusedSimpArgs false

theorem zeroM : ∀ w : World, (zeroValue 28).run Try.prog w = .ok (.agg #[.int .i64 0, .int .i64 0, .int .i64 0, .slice none 0 0]) w := fun w => by kernel_rfl
theorem szI : (Try.prog.info? 28).map (·.size) = some 4 := by kernel_rfl
set_option maxRecDepth 100000 in
set_option maxHeartbeats 4000000 in
theorem delM (es : List (El Msg)) (g n cap lo hi i j : Nat) (hj : i + 1 = j) (hin : i < n) (hn : n ≤ 67108864) (w : World) (h : Oe msg w lo hi (some ⟨g, 0, none⟩) n cap es) :
    Calls Try.prog 103 #[.slice (some ⟨g, 0, none⟩) n cap, .int .i64 (i : Int), .int .i64 (j : Int)] w (fun e w' => e = .returned (.slice (some ⟨g, 0, none⟩) (n - 1) cap) ∧ Oe msg w' lo hi (some ⟨g, 0, none⟩) (n - 1) cap (es.eraseIdx i) ∧ w.grownBy w' (some g)) := by
  obtain ⟨i0, hi0, hz0, hz1, hz2⟩ := info_parts infoM
  have HO := Lib.hid h
  have hcp : n ≤ cap ∧ cap ≤ 9223372036854775807 := h.rq.cap_
  clear h hz0 hz2
  obtain ⟨ad, had, hs2⟩ := sliceS_post (P := Try.prog) 24 28 i0 4 Try.underlying24 hi0 hz1 g n cap (i + 1) (by omega) hcp.1
  have hs0 := fun W => sliceS_three (P := Try.prog) 24 28 i0 4 Try.underlying24 hi0 hz1 g n cap i (i + 1) n (by omega) (by omega) hcp.1 W
  have hs1 := fun W => sliceS_pre (P := Try.prog) 24 28 i0 4 Try.underlying24 hi0 hz1 g n cap i (by omega) W
  have hs3 := fun W => sliceS_mid (P := Try.prog) 24 28 i0 4 Try.underlying24 hi0 hz1 g (n - 1) cap (n - 1) n (by omega) hcp.1 W
  have e3 : n - (n - 1) = 1 := by omega
  rw [e3] at hs3
  rw [hj] at had hs2 hs0
  have HAD := Lib.hid had
  have HJ := Lib.hid hj
  have hij : ((i : Int) == (j : Int)) = false := by simp; omega
  have HI := Lib.hid (And.intro hi0 hz1)
  have HS1 := Lib.hid hs1
  have HS2 := Lib.hid hs2
  have HS3 := Lib.hid hs3
  have hz3 : ∀ W, (Instr.sliceAt 24 (.slice (some ⟨g, 0, none⟩) n cap) (some (.int .i64 i)) (some (.int .i64 j)) (some (.int .i64 n))).run Try.prog W = .ok (.slice (some ⟨g, i * 4, none⟩) (j - i) (n - i)) W := fun W => by rw [at_slice _ _ Try.underlying24]; exact hs0 W
  clear had hs1 hs2 hs3 hj hi0 hz1 hs0
  go_enter Try.func103, Try.ntmps103
  skip
  go_upto_region 5 with fail
  refine reg.region_tail reg.Bel 6 33 [some [], some [], some [(0, 20), (1, 21)], some [], some [], some [(3, 23), (4, 24)], none, none] [(0, 20), (1, 21), (2, 22), (3, 23), (4, 24), (5, 25)]
    (fun w' => Below w.heap.size w w' ∧ Oe msg w' lo hi (some ⟨g, 0, none⟩) n cap es ∧ w.grownBy w' (some g))
    (reg.rl [reg.is (.slice (some ⟨g, 0, none⟩) n cap), reg.is (.int .i64 ((i : Int))), reg.is (.slice (some ⟨g, 0, none⟩) i cap), reg.is (.slice (some ⟨g, 0, none⟩) n cap), reg.is (.int .i64 ((j : Int))), reg.is (.slice (some ad) (n - j) (cap - j)), reg.free, reg.free])
    (by kernel_rfl) rfl (by kernel_rfl) (by kernel_rfl) rfl
    (fun w1 w2 hc hb => ⟨hc.1.trans (hb.mono hc.1.size), hc.2.1.below hb, grown_trans hc.2.2 (grown_below hb _)⟩) (reg.rl_keep _) (⟨own.below_drew (Below.refl _ _), HO.out.same (Nat.le_refl _) (fun _ _ _ => rfl), grown_below (own.below_drew (Below.refl _ _)) _⟩) (by kernel_rfl) ⟨?_, ?_, ?_, ?_, ?_, ?_, trivial⟩ ?_
  · refine fun w8 hc  K hK => ?_
    (try simp only [Act.put, List.setIfInBounds_toArray, List.set_cons_zero, List.set_cons_succ])
    go_simp
    exact hK (.slice (some ⟨g, 0, none⟩) n cap) _ rfl (Below.refl _ _)
  · refine fun w8 hc  K hK => ?_
    (try simp only [Act.put, List.setIfInBounds_toArray, List.set_cons_zero, List.set_cons_succ])
    go_simp
    exact hK (.int .i64 ((i : Int))) _ rfl (Below.refl _ _)
  · refine fun w8 hc v0 h0 v1 h1 K hK => ?_
    obtain rfl : v0 = .slice (some ⟨g, 0, none⟩) n cap := h0
    obtain rfl : v1 = .int .i64 ((i : Int)) := h1
    (try simp only [Act.put, List.setIfInBounds_toArray, List.set_cons_zero, List.set_cons_succ])
    rw [if_pos (by rfl)]
    refine wp_slice_h 24 _ _ rfl (.slice (some ⟨g, 0, none⟩) n cap) (.int .i64 ((i : Int))) _ rfl rfl (fun W => by rw [at_slice _ _ Try.underlying24]; exact HS1.out W) ?_
    exact hK _ _ rfl (Below.refl _ _)
  · refine fun w8 hc  K hK => ?_
    (try simp only [Act.put, List.setIfInBounds_toArray, List.set_cons_zero, List.set_cons_succ])
    go_simp
    exact hK (.slice (some ⟨g, 0, none⟩) n cap) _ rfl (Below.refl _ _)
  · refine fun w8 hc  K hK => ?_
    (try simp only [Act.put, List.setIfInBounds_toArray, List.set_cons_zero, List.set_cons_succ])
    go_simp
    exact hK (.int .i64 ((j : Int))) _ rfl (Below.refl _ _)
  · refine fun w8 hc v3 h3 v4 h4 K hK => ?_
    obtain rfl : v3 = .slice (some ⟨g, 0, none⟩) n cap := h3
    obtain rfl : v4 = .int .i64 ((j : Int)) := h4
    (try simp only [Act.put, List.setIfInBounds_toArray, List.set_cons_zero, List.set_cons_succ])
    rw [if_pos (by rfl)]
    refine wp_slice_l 24 _ _ rfl (.slice (some ⟨g, 0, none⟩) n cap) (.int .i64 ((j : Int))) _ rfl rfl (fun W => by rw [at_slice _ _ Try.underlying24]; exact HS2.out W) ?_
    exact hK _ _ rfl (Below.refl _ _)
  refine fun w9 hc v0 h0 v1 h1 v2 h2 v3 h3 v4 h4 v5 h5 => ?_
  obtain rfl : v0 = .slice (some ⟨g, 0, none⟩) n cap := h0
  obtain rfl : v1 = .int .i64 ((i : Int)) := h1
  obtain rfl : v2 = .slice (some ⟨g, 0, none⟩) i cap := h2
  obtain rfl : v3 = .slice (some ⟨g, 0, none⟩) n cap := h3
  obtain rfl : v4 = .int .i64 ((j : Int)) := h4
  obtain rfl : v5 = .slice (some ad) (n - j) (cap - j) := h5
  (try simp only [reg.Obs])
  (try simp only [Act.put, List.setIfInBounds_toArray, List.set_cons_zero, List.set_cons_succ])
  simp only [List.drop_succ_cons, List.drop_zero]
  have O9 := Lib.hid hc.2.1
  have G9 := Lib.hid hc.2.2
  clear hc
  have hnj : n - j = n - (i + 1) := by have := HJ.out; omega
  have hz4 : ∀ W, (Instr.sliceAt 24 (.slice (some ⟨g, 0, none⟩) (n - 1) cap) (some (.int .i64 ((n - 1 : Nat) : Int))) (some (.int .i64 n)) none).run Try.prog W = .ok (.slice (some ⟨g, (n - 1) * 4, none⟩) 1 (cap - (n - 1))) W := fun W => by rw [at_slice _ _ Try.underlying24]; exact HS3.out W
  go_wp2_with (first
    | (at_builtin; refine list_drop _ rfl _ _ 24 rfl Try.underlying24 HI.out.1 HI.out.2 rfl rfl (by have := HJ.out; omega) O9.out (by omega) (fun hh => by rw [HAD.out (by have := HJ.out; omega), ← HJ.out]; rfl) ?_; intro w2 ho2 hg2; have O2 := Lib.hid ho2; have G2 := Lib.hid (grown_trans G9.out hg2); have TH := Lib.hid (O2.out.there (k := n - 1) (by omega)); have hcl := fun ty => run_clear_at (P := Try.prog) w2 24 28 ty _ Try.underlying24 zeroM (oneM 0 0 0 none 0 0) g ((n - 1) * 4) (cap - (n - 1)) (by decide) TH.out; clear ho2 hg2))
  go_ret
  exact ⟨rfl, O2.out.tail (Nat.le_refl _) _ (by show (n - 1) * 4 + 4 ≤ cap * 4; omega), grown_setCells G2.out _⟩
end Go.Proofs.Ytjmenbpalihnnaa.mq
end

section
namespace Go.Proofs.Ytjmenbpalihnnaa.mq
open Go.RowKit sl harn bx mrw
set_option linter.unusedVariables false
set_option linter.unusedSimpArgs false

theorem oe_some {α : Type} {S : Sh α} {w : World} {lo hi n cap : Nat} {A : Option Addr} {es : List (El α)} (h : Oe S w lo hi A n cap es) (hn : 0 < n) : ∃ g, A = some ⟨g, 0, none⟩ := by
  rcases h.form with ⟨_, h0, _⟩ | ⟨g, cur, e, _⟩
  · omega
  · exact ⟨g, e⟩
theorem grown_set {w w' : World} {r : Option Nat} (h : w.grownBy w' r) {b : Nat} (hb : w.heap.size ≤ b) (i : Nat) (v : Value) : w.grownBy (w'.setCell ⟨b, i, none⟩ v) r :=
  ⟨h.os, h.tape, h.output, by simpa [World.setCell] using h.size, fun k hk hne => by rw [Below.heap_setCell _ _ _ _ (show k ≠ b by omega)]; exact h.block k hk hne⟩
set_option maxRecDepth 100000 in
set_option maxHeartbeats 4000000 in
theorem withoutM (es : List (El Msg)) (d : Int) (g n cap lo hi i : Nat) (hin : i < n) (hn : n ≤ 67108864) (w : World) (h : Oe msg w lo hi (some ⟨g, 0, none⟩) n cap es) :
    Calls Try.prog 65 #[qV (some ⟨g, 0, none⟩) n cap d, .int .i64 (i : Int)] w (fun e w' => e = .returned (qV (some ⟨g, 0, none⟩) (n - 1) cap d) ∧ Oe msg w' lo hi (some ⟨g, 0, none⟩) (n - 1) cap (es.eraseIdx i) ∧ w.grownBy w' (some g)) := by
  obtain ⟨w0, hW⟩ : ∃ w0, (w.alloc (.cells #[.slice (some ⟨g, 0, none⟩) n cap, .int .i64 d] 26)).alloc (.cells #[.slice none 0 0, .int .i64 0] 26) = w0 := ⟨_, rfl⟩
  have B0 := Lib.hid (show Below w.heap.size w w0 by rw [← hW]; exact below_box2 w _ _)
  have X0 := Lib.hid (show Bx 26 w0 w.heap.size #[.slice (some ⟨g, 0, none⟩) n cap, .int .i64 d] by rw [← hW]; exact (Bx.made _ w _).below (below_box _ _))
  have Z0 := Lib.hid (show Bx 26 w0 (w.heap.size + 1) #[.slice none 0 0, .int .i64 0] by rw [← hW]; have hh := Bx.made 26 (w.alloc (.cells #[.slice (some ⟨g, 0, none⟩) n cap, .int .i64 d] 26)) #[.slice none 0 0, .int .i64 0]; simpa using hh)
  have O0 := Lib.hid (h.below B0.out)
  have HH := Lib.hid h.hi_
  have hcp : n ≤ cap ∧ cap ≤ 9223372036854775807 := h.rq.cap_
  have HW := Lib.hid hW
  obtain ⟨j, hj⟩ : ∃ j, i + 1 = j := ⟨_, rfl⟩
  have HJ := Lib.hid hj
  have m0 : (i : Int) + 1 = (j : Int) := by omega
  have m1 : IntKind.i64.wrap (j : Int) = (j : Int) := IntWalk.i64_in _ (by omega)
  have HIN := Lib.hid hin
  have HN := Lib.hid hn
  clear h hW hj hin hn
  go_enter Try.func65, Try.ntmps65
  go_wp2_with fail
  rw [HW.out]
  (with_reducible refine (delM es g n cap lo hi i j HJ.out HIN.out HN.out _ O0.out).mono ?_)
  rintro e w1 ⟨rfl, ho, hg⟩
  have hgl : g < hi := O0.out.lt g 0 rfl
  have O1 := Lib.hid ho
  have X1 := Lib.hid (grown_bx X0.out hg (fun e => by have := HH.out; have e2 := Option.some.inj e; omega))
  have Z1 := Lib.hid (grown_bx Z0.out hg (fun e => by have := HH.out; have e2 := Option.some.inj e; omega))
  have G1 := Lib.hid (grown_trans (grown_below B0.out _) hg)
  clear ho hg O0 X0 Z0 B0 HW m0 m1
  have x0 : w1.cell? ⟨w.heap.size, 0, none⟩ = some (.slice (some ⟨g, 0, none⟩) n cap) := X1.out.cell 0
  have x1 : w1.cell? ⟨w.heap.size, 1, none⟩ = some (.int .i64 d) := X1.out.cell 1
  have fx0 : w1.frozen? ⟨w.heap.size, 0, none⟩ = false := X1.out.free 0
  have z0 : w1.cell? ⟨w.heap.size + 1, 0, none⟩ = some (.slice none 0 0) := Z1.out.cell 0
  have z1 : w1.cell? ⟨w.heap.size + 1, 1, none⟩ = some (.int .i64 0) := Z1.out.cell 1
  have fz0 : w1.frozen? ⟨w.heap.size + 1, 0, none⟩ = false := Z1.out.free 0
  have fz1 : w1.frozen? ⟨w.heap.size + 1, 1, none⟩ = false := Z1.out.free 1
  go_wp2_with fail
  (try simp only [Exit.inBlock, Exit.then])
  refine bodyPost_ret (v := qV (some ⟨g, 0, none⟩) (n - 1) cap d) ?_ rfl ⟨rfl, ?_, ?_⟩
  · rw [results_cell1 rfl]
    go_simp
  · exact O1.out.same (by simp [World.setCell]) (fun b h1 h2 => by have := HH.out; rw [Below.heap_setCell _ _ _ _ (show b ≠ w.heap.size + 1 by omega), Below.heap_setCell _ _ _ _ (show b ≠ w.heap.size + 1 by omega), Below.heap_setCell _ _ _ _ (show b ≠ w.heap.size by omega)])
  · exact grown_set (grown_set (grown_set G1.out (Nat.le_refl _) _ _) (Nat.le_succ _) _ _) (Nat.le_succ _) _ _
theorem map_erase {α β : Type} (f : α → β) : ∀ (l : List α) (i : Nat), (l.eraseIdx i).map f = (l.map f).eraseIdx i
  | [], _ => rfl
  | _ :: _, 0 => rfl
  | a :: l, i + 1 => by simp [map_erase f l i]
set_option maxRecDepth 100000 in
set_option maxHeartbeats 4000000 in
theorem implEn (x : Msg) (Am : Option Addr) (nm cm lo2 hi2 : Nat) (ms : List Msg) (d : Int) (A : Option Addr) (n cap lo hi : Nat) (hn : n ≤ 67108864) (hbd : ∀ y ∈ ms, y.2.2.2.length ≤ 67108864) (w : World) (h : Rq msg w lo hi A n cap ms) (hx : Rd .u8 w lo2 hi2 Am nm cm x.2.2.2) (hxn : nm ≤ 67108864) :
    Calls Try.prog 14 #[qV A n cap d, mV x Am nm cm] w (QPost (enq ms d x) w) := by
  obtain ⟨i0, hi0, hz0, hz1, hz2⟩ := info_parts infoM
  have HZ := Lib.hid (And.intro hi0 (And.intro hz0 (And.intro hz1 hz2)))
  clear hi0 hz0 hz1 hz2
  have QW := Lib.hid h
  have hqh := h.hi_
  have hqc := h.cap_
  have HBD := Lib.hid hbd
  clear h hbd
  have RW := Lib.hid hx
  have hrh := hx.hi_
  have HXN := Lib.hid hxn
  have HN := Lib.hid hn
  have HLN0 := Lib.hid QW.out.len
  obtain ⟨v0, h0⟩ : ∃ v, vq ms d = v := ⟨_, rfl⟩
  obtain ⟨v1, h1⟩ : ∃ v, vm x = v := ⟨_, rfl⟩
  have HQV := Lib.hid h0
  have HMV := Lib.hid h1
  clear hx hxn hn h0 h1
  go_enter Try.func14, Try.ntmps14
  go_wp2_with fail
  obtain ⟨w0, hW⟩ : ∃ w0, ((w.alloc (.cells #[.slice A n cap, .int .i64 d] 26)).alloc (.cells #[.int .i64 x.1, .int .i64 x.2.1, .int .i64 x.2.2.1, .slice Am nm cm] 28)).alloc (.cells #[.slice none 0 0, .int .i64 0] 26) = w0 := ⟨_, rfl⟩
  rw [hW]
  have B0 := Lib.hid (show Below w.heap.size w w0 by rw [← hW]; exact (((Below.refl _ _).alloc (by simp <;> omega) _).alloc (by simp <;> omega) _).alloc (by simp <;> omega) _)
  have X0 := Lib.hid (show Bx 26 w0 (w.heap.size) #[.slice A n cap, .int .i64 d] by
      rw [← hW]
      have hh := Bx.made 26 w #[.slice A n cap, .int .i64 d]
      exact ((hh.below (below_box _ _)).below (below_box _ _)))
  have M0 := Lib.hid (show Bx 28 w0 (w.heap.size + 1) #[.int .i64 x.1, .int .i64 x.2.1, .int .i64 x.2.2.1, .slice Am nm cm] by
      rw [← hW]
      have hh : Bx 28 ((w.alloc (.cells #[.slice A n cap, .int .i64 d] 26)).alloc (.cells #[.int .i64 x.1, .int .i64 x.2.1, .int .i64 x.2.2.1, .slice Am nm cm] 28)) (w.heap.size + 1) #[.int .i64 x.1, .int .i64 x.2.1, .int .i64 x.2.2.1, .slice Am nm cm] := by have hh := Bx.made 28 (w.alloc (.cells #[.slice A n cap, .int .i64 d] 26)) #[.int .i64 x.1, .int .i64 x.2.1, .int .i64 x.2.2.1, .slice Am nm cm]; simpa using hh
      exact (hh.below (below_box _ _)))
  have Z0 := Lib.hid (show Bx 26 w0 (w.heap.size + 1 + 1) #[.slice none 0 0, .int .i64 0] by
      rw [← hW]
      have hh : Bx 26 (((w.alloc (.cells #[.slice A n cap, .int .i64 d] 26)).alloc (.cells #[.int .i64 x.1, .int .i64 x.2.1, .int .i64 x.2.2.1, .slice Am nm cm] 28)).alloc (.cells #[.slice none 0 0, .int .i64 0] 26)) (w.heap.size + 1 + 1) #[.slice none 0 0, .int .i64 0] := by have hh := Bx.made 26 ((w.alloc (.cells #[.slice A n cap, .int .i64 d] 26)).alloc (.cells #[.int .i64 x.1, .int .i64 x.2.1, .int .i64 x.2.2.1, .slice Am nm cm] 28)) #[.slice none 0 0, .int .i64 0]; simpa using hh
      exact hh)
  have Q0 := Lib.hid (show Rq msg w0 lo hi A n cap ms by rw [← hW]; exact (((QW.out.below (below_box _ _)).below (below_box _ _)).below (below_box _ _)))
  have R0 := Lib.hid (show Rd .u8 w0 (lo2) (hi2) Am nm cm x.2.2.2 by rw [← hW]; exact (((RW.out.below (below_box _ _)).below (below_box _ _)).below (below_box _ _)))
  clear hW
  have LTX := Lib.hid X0.out.lt
  have LTM := Lib.hid M0.out.lt
  have LTZ := Lib.hid Z0.out.lt
  (with_reducible refine (implCq ms d A n cap lo hi HN.out HBD.out _ Q0.out).mono ?_)
  rintro e w1 hp
  obtain ⟨A1, n1, c1, es, rfl, gHES, ho, hb⟩ := q_parts hp
  clear hp
  obtain rfl : n = n1 := by have h1 := ho.len; have h2 := congrArg List.length gHES; have h3 := Q0.out.len; simp at h2; omega
  have HES := Lib.hid gHES
  clear gHES
  have SS1 := Lib.hid hb.size
  have B1 := Lib.hid (B0.out.trans (hb.mono B0.out.size))
  have X1 := Lib.hid (X0.out.below hb)
  have M1 := Lib.hid (M0.out.below hb)
  have Z1 := Lib.hid (Z0.out.below hb)
  have Q1 := Lib.hid (Q0.out.below hb)
  have R1 := Lib.hid (R0.out.below hb)
  clear hb B0 X0 M0 Z0 Q0 R0
  have O1 := Lib.hid ho
  clear ho
  go_upto_region 2 with fail
  obtain ⟨bp, hbb⟩ : ∃ b, w1.heap.size = b := ⟨_, rfl⟩
  generalize hW : w1.alloc (.cells #[.slice A1 n c1, .int .i64 d] 26) = w2
  have LP := Lib.hid (show w.heap.size ≤ bp ∧ w.heap.size < bp ∧ w.heap.size + 1 < bp ∧ w.heap.size + 1 + 1 < bp ∧ hi ≤ bp ∧ hi2 ≤ bp ∧ w1.heap.size ≤ bp by have h1 := B1.out.size; have h2X := X1.out.lt; have h2M := M1.out.lt; have h2Z := Z1.out.lt; have h2Q := Q1.out.hi_; have h2R := R1.out.hi_; have h2O := O1.out.hi_; have h3 := hbb; omega)
  have P2 := Lib.hid (show Bx 26 w2 bp #[.slice A1 n c1, .int .i64 d] by rw [← hW, ← hbb]; exact Bx.made _ _ _)
  have hb : Below w1.heap.size w1 w2 := by rw [← hW]; exact below_box _ _
  (try rw [hbb])
  clear hW hbb
  have SS2 := Lib.hid hb.size
  have B2 := Lib.hid (B1.out.trans (hb.mono B1.out.size))
  have X2 := Lib.hid (X1.out.below hb)
  have M2 := Lib.hid (M1.out.below hb)
  have Z2 := Lib.hid (Z1.out.below hb)
  have Q2 := Lib.hid (Q1.out.below hb)
  have R2 := Lib.hid (R1.out.below hb)
  have O2 := Lib.hid (O1.out.below hb)
  clear hb B1 X1 M1 Z1 Q1 R1 O1
  have cX0 : w2.cell? ⟨w.heap.size, 0, none⟩ = some (.slice A n cap) := X2.out.cell 0
  have cX1 : w2.cell? ⟨w.heap.size, 1, none⟩ = some (.int .i64 d) := X2.out.cell 1
  go_wp2_with fail
  clear cX0 cX1
  (with_reducible refine (implVq ms d A n cap _ _ _ Q2.out).mono ?_)
  rintro e w3 hp
  obtain ⟨rfl, hb⟩ := b_parts HQV.out hp
  clear hp
  have SS3 := Lib.hid hb.size
  have B3 := Lib.hid (B2.out.trans (hb.mono B2.out.size))
  have X3 := Lib.hid (X2.out.below hb)
  have M3 := Lib.hid (M2.out.below hb)
  have Z3 := Lib.hid (Z2.out.below hb)
  have P3 := Lib.hid (P2.out.below hb)
  have Q3 := Lib.hid (Q2.out.below hb)
  have R3 := Lib.hid (R2.out.below hb)
  have O3 := Lib.hid (O2.out.below hb)
  clear hb  B2 X2 M2 Z2 P2 Q2 R2 O2
  cases v0 with
  | true =>
    have cM0 : w3.cell? ⟨w.heap.size + 1, 0, none⟩ = some (.int .i64 x.1) := M3.out.cell 0
    have cM1 : w3.cell? ⟨w.heap.size + 1, 1, none⟩ = some (.int .i64 x.2.1) := M3.out.cell 1
    have cM2 : w3.cell? ⟨w.heap.size + 1, 2, none⟩ = some (.int .i64 x.2.2.1) := M3.out.cell 2
    have cM3 : w3.cell? ⟨w.heap.size + 1, 3, none⟩ = some (.slice Am nm cm) := M3.out.cell 3
    go_wp2_with fail
    clear cM0 cM1 cM2 cM3
    (with_reducible refine (implVm x Am nm cm R3.out.len _).mono ?_)
    rintro e w4 hp
    obtain ⟨rfl, hb⟩ := b_parts HMV.out hp
    clear hp
    have SS4 := Lib.hid hb.size
    have B4 := Lib.hid (B3.out.trans (hb.mono B3.out.size))
    have X4 := Lib.hid (X3.out.below hb)
    have M4 := Lib.hid (M3.out.below hb)
    have Z4 := Lib.hid (Z3.out.below hb)
    have P4 := Lib.hid (P3.out.below hb)
    have Q4 := Lib.hid (Q3.out.below hb)
    have R4 := Lib.hid (R3.out.below hb)
    have O4 := Lib.hid (O3.out.below hb)
    clear hb  B3 X3 M3 Z3 P3 Q3 R3 O3
    cases v1 with
    | true =>
      have hn12 : n ≤ 12 := by have h := HQV.out; unfold vq at h; rw [HLN0.out] at h; simp at h; omega
      go_upto_region 4 with fail
      refine rgp.region_tailE (rgp.EA 5 reg.Bel (rgp.Ap msg w0.heap.size w1.heap.size A1 n c1 es)) 7 40 [some [], some [(0, 17)], some [], some [(2, 19)], some [(3, 20)], some [(1, 18), (4, 21)], some [], none] [(0, 17), (1, 18), (2, 19), (3, 20), (4, 21), (5, 22), (6, 23)]
        (fun w' => Below w.heap.size w w' ∧ Bx 26 w' (w.heap.size) #[.slice A n cap, .int .i64 d] ∧ Bx 28 w' (w.heap.size + 1) #[.int .i64 x.1, .int .i64 x.2.1, .int .i64 x.2.2.1, .slice Am nm cm] ∧ Bx 26 w' (w.heap.size + 1 + 1) #[.slice none 0 0, .int .i64 0] ∧ Bx 26 w' (bp) #[.slice A1 n c1, .int .i64 d] ∧ Rq msg w' lo hi A n cap ms ∧ Rd .u8 w' (lo2) (hi2) Am nm cm x.2.2.2 ∧ Oe msg w' w0.heap.size w1.heap.size A1 n c1 es ∧ True)
        (rgp.RA 5 [rgp.is (.pointer (some ⟨bp, 0, none⟩)), rgp.is (.slice A1 n c1), rgp.is (.agg #[.int .i64 x.1, .int .i64 x.2.1, .int .i64 x.2.2.1, .slice Am nm cm]), rgp.elv msg w0.heap.size w1.heap.size A1 n c1 es x (fun A n c => mV x A n c), rgp.onev msg w0.heap.size w1.heap.size A1 n c1 es x (fun A n c => #[.int .i64 x.1, .int .i64 x.2.1, .int .i64 x.2.2.1, .slice A n c]), rgp.val fun _ => True, rgp.is (.pointer (some ⟨bp, 0, none⟩))] (rgp.newv msg w0.heap.size n es x))
        (by kernel_rfl) rfl (by kernel_rfl) (by kernel_rfl) rfl
        (fun i w1 w2 hc he => rgp.ea_cases he (fun hb => (fun w1 w2 hc hb => ⟨hc.1.trans (hb.mono hc.1.size), hc.2.1.below hb, hc.2.2.1.below hb, hc.2.2.2.1.below hb, hc.2.2.2.2.1.below hb, hc.2.2.2.2.2.1.below hb, hc.2.2.2.2.2.2.1.below hb, hc.2.2.2.2.2.2.2.1.below hb, trivial⟩) w1 w2 hc hb) (fun h2 => ⟨below_grown hc.1 h2.2.1 (fun q hq => by have hlP := LP.out; have hs0 := LTX.out; have hs1 := LTM.out; have hs2 := LTZ.out; have hs3 := SS1.out; have hs4 := SS2.out; have hs5 := SS3.out; have hs6 := SS4.out; have := (h2.1.lo_ hq).1; omega) hc.1.size, grown_bx hc.2.1 h2.2.1 (rgp.ne_type hc.2.1 h2.1 (by decide)), grown_bx hc.2.2.1 h2.2.1 (fun e => by have hlP := LP.out; have hs0 := LTX.out; have hs1 := LTM.out; have hs2 := LTZ.out; have hs3 := SS1.out; have hs4 := SS2.out; have hs5 := SS3.out; have hs6 := SS4.out; have := h2.1.lo_ e.symm; omega), grown_bx hc.2.2.2.1 h2.2.1 (rgp.ne_type hc.2.2.2.1 h2.1 (by decide)), grown_bx hc.2.2.2.2.1 h2.2.1 (rgp.ne_type hc.2.2.2.2.1 h2.1 (by decide)), rq_grown hc.2.2.2.2.2.1 h2.1 h2.2.1 (by have hlP := LP.out; have hs0 := LTX.out; have hs1 := LTM.out; have hs2 := LTZ.out; have hs3 := SS1.out; have hs4 := SS2.out; have hs5 := SS3.out; have hs6 := SS4.out; first | omega | (simp <;> omega)), rd_grown h2.1 h2.2.1 hc.2.2.2.2.2.2.1 (by have hlP := LP.out; have hs0 := LTX.out; have hs1 := LTM.out; have hs2 := LTZ.out; have hs3 := SS1.out; have hs4 := SS2.out; have hs5 := SS3.out; have hs6 := SS4.out; first | omega | (simp <;> omega)), h2.2.2, trivial⟩))
        (rgp.ra_keep rgp.newv_keep) (⟨own.below_drew B4.out, X4.out.same rfl, M4.out.same rfl, Z4.out.same rfl, P4.out.same rfl, Q4.out.same (Nat.le_refl _) (fun _ _ _ => rfl), own.rd_drew R4.out, O4.out.same (Nat.le_refl _) (fun _ _ _ => rfl), trivial⟩) (by kernel_rfl) ⟨?_, ?_, ?_, ?_, ?_, ?_, ?_, trivial⟩ ?_
      · refine fun w8 hc  K hK => ?_
        (try simp only [Act.put, List.setIfInBounds_toArray, List.set_cons_zero, List.set_cons_succ])
        go_simp
        exact hK (.pointer (some ⟨bp, 0, none⟩)) _ (rgp.ra1 rfl rfl) (rgp.ea1 rfl (Below.refl _ _))
      · refine fun w8 hc v0 h0 K hK => ?_
        have h0 := rgp.ra1_out rfl h0
        obtain rfl : v0 = .pointer (some ⟨bp, 0, none⟩) := h0
        (try simp only [Act.put, List.setIfInBounds_toArray, List.set_cons_zero, List.set_cons_succ])
        go_simp
        have c0 : w8.cell? ⟨bp, 0, none⟩ = some (.slice A1 n c1) := hc.2.2.2.2.1.cell 0
        go_simp
        exact hK (.slice A1 n c1) _ (rgp.ra1 rfl rfl) (rgp.ea1 rfl (Below.refl _ _))
      · refine fun w8 hc  K hK => ?_
        (try simp only [Act.put, List.setIfInBounds_toArray, List.set_cons_zero, List.set_cons_succ])
        rw [if_pos (by rfl)]
        refine stw.wp_load_bx 28 _ rfl (w.heap.size + 1) rfl 28 _ hc.2.2.1 Try.underlying28 rfl szM ?_
        exact hK _ _ (rgp.ra1 rfl rfl) (rgp.ea1 rfl (Below.refl _ _))
      · refine fun w8 hc v2 h2 K hK => ?_
        have h2 := rgp.ra1_out rfl h2
        obtain rfl : v2 = .agg #[.int .i64 x.1, .int .i64 x.2.1, .int .i64 x.2.2.1, .slice Am nm cm] := h2
        (try simp only [Act.put, List.setIfInBounds_toArray, List.set_cons_zero, List.set_cons_succ])
        go_simp
        (with_reducible refine (implCm x Am nm cm _ _ _ hc.2.2.2.2.2.2.1 HXN.out).mono ?_)
        rintro e w3 hp
        obtain ⟨A2, n2, c2, rfl, ho2, hb⟩ := x_parts hp
        exact hK _ _ (rgp.ra1 rfl ⟨A2, n2, c2, _, _, rfl, by have hA := hc.2.2.2.2.2.2.2.1.hi_; omega, by have hlP := LP.out; have hs0 := LTX.out; have hs1 := LTM.out; have hs2 := LTZ.out; have hs3 := SS1.out; have hs4 := SS2.out; have hs5 := SS3.out; have hs6 := SS4.out; have hA := hc.2.2.2.2.2.2.2.1.hi_; omega, ho2⟩) (rgp.ea1 rfl hb)
      · refine fun w8 hc v3 h3 K hK => ?_
        have h3 := rgp.ra1_out rfl h3
        obtain ⟨A2, n2, c2, lo2, hi2, rfl, hq1, hq2, hO2⟩ := h3
        (try simp only [Act.put, List.setIfInBounds_toArray, List.set_cons_zero, List.set_cons_succ])
        go_simp
        exact hK (.slice (some ⟨w8.heap.size, 0, none⟩) 1 1) _ (rgp.ra1 rfl ⟨w8.heap.size, A2, n2, c2, lo2, hi2, rfl, hc.2.2.2.2.2.2.2.1.hi_, Bx.made _ _ _, hq1, hq2, hO2.below (below_box _ _)⟩) (rgp.ea1 rfl (below_box _ _))
      · refine fun w8 hc v1 h1 v4 h4 K hK => ?_
        have h1 := rgp.ra1_out rfl h1
        obtain rfl : v1 = .slice A1 n c1 := h1
        have h4 := rgp.ra1_out rfl h4
        obtain ⟨q1, A1_, n1_, c1_, lo1_, hi1_, rfl, hqq, hX1, hq3, hq4, hO1⟩ := h4
        (try simp only [Act.put, List.setIfInBounds_toArray, List.set_cons_zero, List.set_cons_succ])
        rw [if_pos (by rfl)]
        (refine rgp.wp_push _ _ 24 rfl Try.underlying24 HZ.out.1 HZ.out.2.1 HZ.out.2.2.1 (by rw [HZ.out.2.2.2]; omega) rfl rfl rfl hc.2.2.2.2.2.2.2.1 x hX1 hO1 hq3 hq4 (by omega) (by have hA := hc.2.2.2.2.2.2.2.1.hi_; have hlP := LP.out; have hs0 := LTX.out; have hs1 := LTM.out; have hs2 := LTZ.out; have hs3 := SS1.out; have hs4 := SS2.out; have hs5 := SS3.out; have hs6 := SS4.out; omega) ?_)
        intro A4 c4 w4 hn4 hp4
        exact hK _ _ (rgp.ra2 hn4) (rgp.ea2 hp4)
      · refine fun w8 hc  K hK => ?_
        (try simp only [Act.put, List.setIfInBounds_toArray, List.set_cons_zero, List.set_cons_succ])
        go_simp
        exact hK (.pointer (some ⟨bp, 0, none⟩)) _ (rgp.ra1 rfl rfl) (rgp.ea1 rfl (Below.refl _ _))
      refine fun wg5 hc v0 h0 v1 h1 v2 h2 v3 h3 v4 h4 v5 h5 v6 h6 => ?_
      have h0 := rgp.ra1_out rfl h0
      obtain rfl : v0 = .pointer (some ⟨bp, 0, none⟩) := h0
      have h1 := rgp.ra1_out rfl h1
      obtain rfl : v1 = .slice A1 n c1 := h1
      have h2 := rgp.ra1_out rfl h2
      obtain rfl : v2 = .agg #[.int .i64 x.1, .int .i64 x.2.1, .int .i64 x.2.2.1, .slice Am nm cm] := h2
      have h3 := rgp.ra1_out rfl h3
      obtain ⟨A2, n2, c2, lo2, hi2, rfl, hq1, hq2, hO2⟩ := h3
      have h4 := rgp.ra1_out rfl h4
      obtain ⟨q1, A1_, n1_, c1_, lo1_, hi1_, rfl, hqq, hX1, hq3, hq4, hO1⟩ := h4
      have h5 := rgp.ra2_out h5
      obtain ⟨A3, c3, f3, hi3, rfl, hfx, hO3⟩ := h5
      have h6 := rgp.ra1_out rfl h6
      obtain rfl : v6 = .pointer (some ⟨bp, 0, none⟩) := h6
      (try simp only [reg.Obs])
      (try simp only [Act.put, List.setIfInBounds_toArray, List.set_cons_zero, List.set_cons_succ])
      simp only [List.drop_succ_cons, List.drop_zero]
      have B5 := Lib.hid hc.1
      have X5 := Lib.hid hc.2.1
      have M5 := Lib.hid hc.2.2.1
      have Z5 := Lib.hid hc.2.2.2.1
      have P5 := Lib.hid hc.2.2.2.2.1
      have Q5 := Lib.hid hc.2.2.2.2.2.1
      have R5 := Lib.hid hc.2.2.2.2.2.2.1
      have O5 := Lib.hid hO3.up
      clear hO3 hc B4 X4 M4 Z4 P4 Q4 R4 O4
      have cP0 : wg5.cell? ⟨bp, 0, none⟩ = some (.slice A1 n c1) := P5.out.cell 0
      have fP0 : wg5.frozen? ⟨bp, 0, none⟩ = false := P5.out.free 0
      go_upto_region 5 with fail
      clear cP0 fP0
      have hWW : (wg5.setCell ⟨bp, 0, none⟩ (.slice A3 (n + 1) c3)) = (wg5.setCell ⟨bp, 0, none⟩ (.slice A3 (n + 1) c3)) := rfl
      obtain ⟨w6, hW⟩ : ∃ wy, (wg5.setCell ⟨bp, 0, none⟩ (.slice A3 (n + 1) c3)) = wy := ⟨_, rfl⟩
      rw [hW]
      clear hWW
      have B6 := Lib.hid (show Below w.heap.size w w6 by rw [← hW]; exact (B5.out.setCell (p := ⟨bp, 0, none⟩) (by have hlP := LP.out; have hs0 := LTX.out; have hs1 := LTM.out; have hs2 := LTZ.out; have hs3 := SS1.out; have hs4 := SS2.out; have hs5 := SS3.out; have hs6 := SS4.out; first | omega | (simp <;> omega)) _))
      have X6 := Lib.hid (show Bx 26 w6 (w.heap.size) #[.slice A n cap, .int .i64 d] by rw [← hW]; exact (X5.out.other (by have hlP := LP.out; have hs0 := LTX.out; have hs1 := LTM.out; have hs2 := LTZ.out; have hs3 := SS1.out; have hs4 := SS2.out; have hs5 := SS3.out; have hs6 := SS4.out; first | omega | (simp <;> omega)) _ _))
      have M6 := Lib.hid (show Bx 28 w6 (w.heap.size + 1) #[.int .i64 x.1, .int .i64 x.2.1, .int .i64 x.2.2.1, .slice Am nm cm] by rw [← hW]; exact (M5.out.other (by have hlP := LP.out; have hs0 := LTX.out; have hs1 := LTM.out; have hs2 := LTZ.out; have hs3 := SS1.out; have hs4 := SS2.out; have hs5 := SS3.out; have hs6 := SS4.out; first | omega | (simp <;> omega)) _ _))
      have Z6 := Lib.hid (show Bx 26 w6 (w.heap.size + 1 + 1) #[.slice none 0 0, .int .i64 0] by rw [← hW]; exact (Z5.out.other (by have hlP := LP.out; have hs0 := LTX.out; have hs1 := LTM.out; have hs2 := LTZ.out; have hs3 := SS1.out; have hs4 := SS2.out; have hs5 := SS3.out; have hs6 := SS4.out; first | omega | (simp <;> omega)) _ _))
      have P6 := Lib.hid (show Bx 26 w6 (bp) #[.slice A3 (n + 1) c3, .int .i64 d] by rw [← hW]; exact (P5.out.set 0 _))
      have Q6 := Lib.hid (show Rq msg w6 lo hi A n cap ms by rw [← hW]; exact (Q5.out.same (by simp [World.setCell]) fun b h1 h2 => by rw [Below.heap_setCell _ _ _ _ (by have hlP := LP.out; have hs0 := LTX.out; have hs1 := LTM.out; have hs2 := LTZ.out; have hs3 := SS1.out; have hs4 := SS2.out; have hs5 := SS3.out; have hs6 := SS4.out; first | omega | (simp <;> omega))]))
      have O6 := Lib.hid (show Oe msg w6 w0.heap.size wg5.heap.size A3 (n + 1) c3 (es ++ [f3]) by rw [← hW]; exact (rgp.oe_setCell O5.out P5.out (by decide) (by decide) 0 _))
      clear hW B5 X5 M5 Z5 P5 Q5 O5
      have HEQ := Lib.hid (show (es ++ [f3]).map (·.x) = ms ++ [x] by rw [List.map_append, HES.out, List.map_cons, hfx]; rfl)
      have HLL := Lib.hid (show (ms ++ [x]).length = n + 1 by rw [List.length_append, HLN0.out]; rfl)
      clear hfx
      have cP0 : w6.cell? ⟨bp, 0, none⟩ = some (.slice A3 (n + 1) c3) := P6.out.cell 0
      have cP1 : w6.cell? ⟨bp, 1, none⟩ = some (.int .i64 d) := P6.out.cell 1
      by_cases hle : n + 1 ≤ 12
      · have hd1 : decide ((12 : Int) < (n : Int) + 1) = false := decide_eq_false (by omega)
        have HE := Lib.hid (show enq ms d x = (ms ++ [x], d) by unfold enq; rw [HQV.out, HMV.out, if_pos (show (true && true) = true from rfl), if_pos (by rw [HLL.out]; exact hle)])
        go_wp2_with (first | (refine stw.list_load rfl 26 _ rfl (bp) rfl 26 _ P6.out Try.underlying26 rfl szQ ?_) | (refine stw.list_store rfl 26 _ _ rfl (w.heap.size + 1 + 1) #[.slice A3 (n + 1) c3, .int .i64 d] rfl rfl 26 _ Z6.out rfl szQ (oneQ _ _ _ _) ?_; intro wz7 hz))
        clear cP0 cP1
        have B7 := Lib.hid (hz.on B6.out (by have hlP := LP.out; have hs0 := LTX.out; have hs1 := LTM.out; have hs2 := LTZ.out; have hs3 := SS1.out; have hs4 := SS2.out; have hs5 := SS3.out; have hs6 := SS4.out; first | omega | (simp <;> omega)))
        have X7 := Lib.hid (hz.keep X6.out (by have hlP := LP.out; have hs0 := LTX.out; have hs1 := LTM.out; have hs2 := LTZ.out; have hs3 := SS1.out; have hs4 := SS2.out; have hs5 := SS3.out; have hs6 := SS4.out; first | omega | (simp <;> omega)))
        have M7 := Lib.hid (hz.keep M6.out (by have hlP := LP.out; have hs0 := LTX.out; have hs1 := LTM.out; have hs2 := LTZ.out; have hs3 := SS1.out; have hs4 := SS2.out; have hs5 := SS3.out; have hs6 := SS4.out; first | omega | (simp <;> omega)))
        have Z7 := Lib.hid (hz.box)
        have P7 := Lib.hid (hz.keep P6.out (by have hlP := LP.out; have hs0 := LTX.out; have hs1 := LTM.out; have hs2 := LTZ.out; have hs3 := SS1.out; have hs4 := SS2.out; have hs5 := SS3.out; have hs6 := SS4.out; first | omega | (simp <;> omega)))
        have Q7 := Lib.hid (Q6.out.same hz.below.size fun b h1 h2 => hz.other b (by have hlP := LP.out; have hs0 := LTX.out; have hs1 := LTM.out; have hs2 := LTZ.out; have hs3 := SS1.out; have hs4 := SS2.out; have hs5 := SS3.out; have hs6 := SS4.out; first | omega | (simp <;> omega)))
        have O7 := Lib.hid (rgp.oe_set O6.out Z6.out (by decide) (by decide) hz.below.size (fun k hk => hz.other k hk))
        clear hz B6 X6 M6 Z6 P6 Q6 O6
        (try simp only [Exit.inBlock, Exit.then])
        refine bodyPost_ret (v := .agg #[.slice A3 (n + 1) c3, .int .i64 d]) ?_ rfl ?_
        · rw [results_cell1 rfl]
          exact stw.back Z7.out Try.underlying26 rfl szQ
        · exact by rw [HE.out]; exact ⟨_, _, _, rfl, ⟨_, HEQ.out, (O7.out).up.down (by have hlP := LP.out; have hs0 := LTX.out; have hs1 := LTM.out; have hs2 := LTZ.out; have hs3 := SS1.out; have hs4 := SS2.out; have hs5 := SS3.out; have hs6 := SS4.out; first | omega | (simp <;> omega))⟩, B7.out⟩
      · have hd1 : decide ((12 : Int) < (n : Int) + 1) = true := decide_eq_true (by omega)
        obtain ⟨u, hu⟩ : ∃ u, IntKind.i64.wrap (d + 1) = u := ⟨_, rfl⟩
        obtain ⟨zi, hzi⟩ : ∃ zi : Nat, bst le (ms ++ [x]) (n + 1) = (zi : Int) ∧ zi < n + 1 := by
          have h1 := bst_range le (ms ++ [x]) (n + 1)
          exact ⟨(bst le (ms ++ [x]) (n + 1)).toNat, by omega, by omega⟩
        have HE := Lib.hid (show enq ms d x = ((ms ++ [x]).eraseIdx zi, u) by unfold enq; rw [HQV.out, HMV.out, if_pos (show (true && true) = true from rfl), if_neg (by rw [HLL.out]; exact hle), HLL.out, hzi.1, hu, Int.toNat_natCast])
        have HZI := Lib.hid hzi
        obtain ⟨g, hgA⟩ := oe_some O6.out (by omega)
        subst hgA
        have HU := Lib.hid hu
        clear hzi hu
        have HRQ := Lib.hid (show Rq msg w6 _ _ _ _ _ (ms ++ [x]) by rw [← HEQ.out]; exact O6.out.rq)
        have G6 := Lib.hid HRQ.out
        clear HRQ
        go_upto_region 6 with fail
        clear hd1
        clear cP0 cP1
        refine reg.region_tail reg.Bel 6 40 [some [], some [], some [(1, 29)], some [], some [(3, 31)], some [(2, 30), (4, 32)], none, none] [(0, 28), (1, 29), (2, 30), (3, 31), (4, 32), (5, 33)]
          (fun w' => Below w.heap.size w w' ∧ Bx 26 w' (w.heap.size) #[.slice A n cap, .int .i64 d] ∧ Bx 28 w' (w.heap.size + 1) #[.int .i64 x.1, .int .i64 x.2.1, .int .i64 x.2.2.1, .slice Am nm cm] ∧ Bx 26 w' (w.heap.size + 1 + 1) #[.slice none 0 0, .int .i64 0] ∧ Bx 26 w' (bp) #[.slice (some ⟨g, 0, none⟩) (n + 1) c3, .int .i64 d] ∧ Rq msg w' lo hi A n cap ms ∧ Oe msg w' w0.heap.size wg5.heap.size (some ⟨g, 0, none⟩) (n + 1) c3 (es ++ [f3]) ∧ Rq msg w' w0.heap.size wg5.heap.size (some ⟨g, 0, none⟩) (n + 1) c3 (ms ++ [x]) ∧ True)
          (reg.rl [reg.is (.agg #[.slice (some ⟨g, 0, none⟩) (n + 1) c3, .int .i64 d]), reg.is (.pointer (some ⟨bp, 0, none⟩)), reg.is (.slice (some ⟨g, 0, none⟩) (n + 1) c3), reg.is (.agg #[]), reg.is (.iface 86 (.agg #[])), reg.is (.int .i64 ((zi : Int))), reg.free, reg.free])
          (by kernel_rfl) rfl (by kernel_rfl) (by kernel_rfl) rfl
          (fun w1 w2 hc hb => ⟨hc.1.trans (hb.mono hc.1.size), hc.2.1.below hb, hc.2.2.1.below hb, hc.2.2.2.1.below hb, hc.2.2.2.2.1.below hb, hc.2.2.2.2.2.1.below hb, hc.2.2.2.2.2.2.1.below hb, hc.2.2.2.2.2.2.2.1.below hb, trivial⟩) (reg.rl_keep _) (⟨own.below_drew B6.out, X6.out.same rfl, M6.out.same rfl, Z6.out.same rfl, P6.out.same rfl, Q6.out.same (Nat.le_refl _) (fun _ _ _ => rfl), O6.out.same (Nat.le_refl _) (fun _ _ _ => rfl), G6.out.same (Nat.le_refl _) (fun _ _ _ => rfl), trivial⟩) (by kernel_rfl) ⟨?_, ?_, ?_, ?_, ?_, ?_, trivial⟩ ?_
        · refine fun w8 hc  K hK => ?_
          (try simp only [Act.put, List.setIfInBounds_toArray, List.set_cons_zero, List.set_cons_succ])
          rw [if_pos (by rfl)]
          refine stw.wp_load_bx 26 _ rfl (bp) rfl 26 _ hc.2.2.2.2.1 Try.underlying26 rfl szQ ?_
          exact hK _ _ rfl (Below.refl _ _)
        · refine fun w8 hc  K hK => ?_
          (try simp only [Act.put, List.setIfInBounds_toArray, List.set_cons_zero, List.set_cons_succ])
          go_simp
          exact hK (.pointer (some ⟨bp, 0, none⟩)) _ rfl (Below.refl _ _)
        · refine fun w8 hc v1 h1 K hK => ?_
          obtain rfl : v1 = .pointer (some ⟨bp, 0, none⟩) := h1
          (try simp only [Act.put, List.setIfInBounds_toArray, List.set_cons_zero, List.set_cons_succ])
          have c0 : w8.cell? ⟨bp, 0, none⟩ = some (.slice (some ⟨g, 0, none⟩) (n + 1) c3) := hc.2.2.2.2.1.cell 0
          go_simp
          exact hK (.slice (some ⟨g, 0, none⟩) (n + 1) c3) _ rfl (Below.refl _ _)
        · refine fun w8 hc  K hK => ?_
          (try simp only [Act.put, List.setIfInBounds_toArray, List.set_cons_zero, List.set_cons_succ])
          go_simp
          exact hK (.agg #[]) _ rfl (Below.refl _ _)
        · refine fun w8 hc v3 h3 K hK => ?_
          obtain rfl : v3 = .agg #[] := h3
          (try simp only [Act.put, List.setIfInBounds_toArray, List.set_cons_zero, List.set_cons_succ])
          go_simp
          exact hK (.iface 86 (.agg #[])) _ rfl (Below.refl _ _)
        · refine fun w8 hc v2 h2 v4 h4 K hK => ?_
          obtain rfl : v2 = .slice (some ⟨g, 0, none⟩) (n + 1) c3 := h2
          obtain rfl : v4 = .iface 86 (.agg #[]) := h4
          (try simp only [Act.put, List.setIfInBounds_toArray, List.set_cons_zero, List.set_cons_succ])
          go_simp
          (with_reducible refine (chosenD (ms ++ [x]) _ (n + 1) c3 _ _ _ hc.2.2.2.2.2.2.2.1).mono ?_)
          rintro e w3 hp
          obtain ⟨rfl, hb⟩ := n_parts HZI.out.1 hp
          exact hK _ _ rfl hb
        refine fun wg7 hc v0 h0 v1 h1 v2 h2 v3 h3 v4 h4 v5 h5 => ?_
        obtain rfl : v0 = .agg #[.slice (some ⟨g, 0, none⟩) (n + 1) c3, .int .i64 d] := h0
        obtain rfl : v1 = .pointer (some ⟨bp, 0, none⟩) := h1
        obtain rfl : v2 = .slice (some ⟨g, 0, none⟩) (n + 1) c3 := h2
        obtain rfl : v3 = .agg #[] := h3
        obtain rfl : v4 = .iface 86 (.agg #[]) := h4
        obtain rfl : v5 = .int .i64 ((zi : Int)) := h5
        (try simp only [reg.Obs])
        (try simp only [Act.put, List.setIfInBounds_toArray, List.set_cons_zero, List.set_cons_succ])
        simp only [List.drop_succ_cons, List.drop_zero]
        have B7 := Lib.hid hc.1
        have X7 := Lib.hid hc.2.1
        have M7 := Lib.hid hc.2.2.1
        have Z7 := Lib.hid hc.2.2.2.1
        have P7 := Lib.hid hc.2.2.2.2.1
        have Q7 := Lib.hid hc.2.2.2.2.2.1
        have O7 := Lib.hid hc.2.2.2.2.2.2.1
        have G7 := Lib.hid hc.2.2.2.2.2.2.2.1
        clear hc B6 X6 M6 Z6 P6 Q6 O6 G6
        go_wp2_with fail
        (with_reducible refine (withoutM (es ++ [f3]) d g (n + 1) c3 _ _ zi HZI.out.2 (by have := HN.out; omega) _ O7.out).mono ?_)
        rintro e w8 ⟨rfl, ho, hg⟩
        have B8 := Lib.hid (below_grown B7.out hg (fun q hq => by have hlP := LP.out; have hs0 := LTX.out; have hs1 := LTM.out; have hs2 := LTZ.out; have hs3 := SS1.out; have hs4 := SS2.out; have hs5 := SS3.out; have hs6 := SS4.out; have := (O7.out.lo_ hq).1; omega) B7.out.size)
        have X8 := Lib.hid (grown_bx X7.out hg (rgp.ne_type X7.out O7.out (by decide)))
        have M8 := Lib.hid (grown_bx M7.out hg (fun e => by have hlP := LP.out; have hs0 := LTX.out; have hs1 := LTM.out; have hs2 := LTZ.out; have hs3 := SS1.out; have hs4 := SS2.out; have hs5 := SS3.out; have hs6 := SS4.out; have := O7.out.lo_ e.symm; omega))
        have Z8 := Lib.hid (grown_bx Z7.out hg (rgp.ne_type Z7.out O7.out (by decide)))
        have P8 := Lib.hid (grown_bx P7.out hg (rgp.ne_type P7.out O7.out (by decide)))
        have Q8 := Lib.hid (rq_grown Q7.out O7.out hg (by have hlP := LP.out; have hs0 := LTX.out; have hs1 := LTM.out; have hs2 := LTZ.out; have hs3 := SS1.out; have hs4 := SS2.out; have hs5 := SS3.out; have hs6 := SS4.out; first | omega | (simp <;> omega)))
        have SS8 := Lib.hid hg.size
        clear B7 X7 M7 Z7 P7 Q7 O7
        have O8 := Lib.hid (show Oe msg w8 w0.heap.size wg5.heap.size (some ⟨g, 0, none⟩) n c3 (((es ++ [f3]).eraseIdx zi)) from ho)
        clear ho hg
        go_upto_region 7 with (refine stw.list_store rfl 26 _ _ rfl (bp) #[.slice (some ⟨g, 0, none⟩) n c3, .int .i64 d] rfl rfl 26 _ P8.out rfl szQ (oneQ _ _ _ _) ?_; intro wz9 hz)
        have B9 := Lib.hid (hz.on B8.out (by have hlP := LP.out; have hs0 := LTX.out; have hs1 := LTM.out; have hs2 := LTZ.out; have hs3 := SS1.out; have hs4 := SS2.out; have hs5 := SS3.out; have hs6 := SS4.out; have hs7 := SS8.out; first | omega | (simp <;> omega)))
        have X9 := Lib.hid (hz.keep X8.out (by have hlP := LP.out; have hs0 := LTX.out; have hs1 := LTM.out; have hs2 := LTZ.out; have hs3 := SS1.out; have hs4 := SS2.out; have hs5 := SS3.out; have hs6 := SS4.out; have hs7 := SS8.out; first | omega | (simp <;> omega)))
        have M9 := Lib.hid (hz.keep M8.out (by have hlP := LP.out; have hs0 := LTX.out; have hs1 := LTM.out; have hs2 := LTZ.out; have hs3 := SS1.out; have hs4 := SS2.out; have hs5 := SS3.out; have hs6 := SS4.out; have hs7 := SS8.out; first | omega | (simp <;> omega)))
        have Z9 := Lib.hid (hz.keep Z8.out (by have hlP := LP.out; have hs0 := LTX.out; have hs1 := LTM.out; have hs2 := LTZ.out; have hs3 := SS1.out; have hs4 := SS2.out; have hs5 := SS3.out; have hs6 := SS4.out; have hs7 := SS8.out; first | omega | (simp <;> omega)))
        have P9 := Lib.hid (hz.box)
        have Q9 := Lib.hid (Q8.out.same hz.below.size fun b h1 h2 => hz.other b (by have hlP := LP.out; have hs0 := LTX.out; have hs1 := LTM.out; have hs2 := LTZ.out; have hs3 := SS1.out; have hs4 := SS2.out; have hs5 := SS3.out; have hs6 := SS4.out; have hs7 := SS8.out; first | omega | (simp <;> omega)))
        have O9 := Lib.hid (rgp.oe_set O8.out P8.out (by decide) (by decide) hz.below.size (fun k hk => hz.other k hk))
        clear hz B8 X8 M8 Z8 P8 Q8 O8
        have cP0 : wz9.cell? ⟨bp, 0, none⟩ = some (.slice (some ⟨g, 0, none⟩) n c3) := P9.out.cell 0
        have cP1 : wz9.cell? ⟨bp, 1, none⟩ = some (.int .i64 d) := P9.out.cell 1
        have fP1 : wz9.frozen? ⟨bp, 1, none⟩ = false := P9.out.free 1
        have hu := HU.out
        go_upto_region 8 with fail
        clear hu
        clear cP0 cP1 fP1
        have hWW : (wz9.setCell ⟨bp, 1, none⟩ (.int .i64 u)) = (wz9.setCell ⟨bp, 1, none⟩ (.int .i64 u)) := rfl
        obtain ⟨w10, hW⟩ : ∃ wy, (wz9.setCell ⟨bp, 1, none⟩ (.int .i64 u)) = wy := ⟨_, rfl⟩
        rw [hW]
        clear hWW
        have B10 := Lib.hid (show Below w.heap.size w w10 by rw [← hW]; exact (B9.out.setCell (p := ⟨bp, 1, none⟩) (by have hlP := LP.out; have hs0 := LTX.out; have hs1 := LTM.out; have hs2 := LTZ.out; have hs3 := SS1.out; have hs4 := SS2.out; have hs5 := SS3.out; have hs6 := SS4.out; have hs7 := SS8.out; first | omega | (simp <;> omega)) _))
        have X10 := Lib.hid (show Bx 26 w10 (w.heap.size) #[.slice A n cap, .int .i64 d] by rw [← hW]; exact (X9.out.other (by have hlP := LP.out; have hs0 := LTX.out; have hs1 := LTM.out; have hs2 := LTZ.out; have hs3 := SS1.out; have hs4 := SS2.out; have hs5 := SS3.out; have hs6 := SS4.out; have hs7 := SS8.out; first | omega | (simp <;> omega)) _ _))
        have M10 := Lib.hid (show Bx 28 w10 (w.heap.size + 1) #[.int .i64 x.1, .int .i64 x.2.1, .int .i64 x.2.2.1, .slice Am nm cm] by rw [← hW]; exact (M9.out.other (by have hlP := LP.out; have hs0 := LTX.out; have hs1 := LTM.out; have hs2 := LTZ.out; have hs3 := SS1.out; have hs4 := SS2.out; have hs5 := SS3.out; have hs6 := SS4.out; have hs7 := SS8.out; first | omega | (simp <;> omega)) _ _))
        have Z10 := Lib.hid (show Bx 26 w10 (w.heap.size + 1 + 1) #[.slice none 0 0, .int .i64 0] by rw [← hW]; exact (Z9.out.other (by have hlP := LP.out; have hs0 := LTX.out; have hs1 := LTM.out; have hs2 := LTZ.out; have hs3 := SS1.out; have hs4 := SS2.out; have hs5 := SS3.out; have hs6 := SS4.out; have hs7 := SS8.out; first | omega | (simp <;> omega)) _ _))
        have P10 := Lib.hid (show Bx 26 w10 (bp) #[.slice (some ⟨g, 0, none⟩) n c3, .int .i64 u] by rw [← hW]; exact (P9.out.set 1 _))
        have Q10 := Lib.hid (show Rq msg w10 lo hi A n cap ms by rw [← hW]; exact (Q9.out.same (by simp [World.setCell]) fun b h1 h2 => by rw [Below.heap_setCell _ _ _ _ (by have hlP := LP.out; have hs0 := LTX.out; have hs1 := LTM.out; have hs2 := LTZ.out; have hs3 := SS1.out; have hs4 := SS2.out; have hs5 := SS3.out; have hs6 := SS4.out; have hs7 := SS8.out; first | omega | (simp <;> omega))]))
        have O10 := Lib.hid (show Oe msg w10 w0.heap.size wg5.heap.size (some ⟨g, 0, none⟩) n c3 (((es ++ [f3]).eraseIdx zi)) by rw [← hW]; exact (rgp.oe_setCell O9.out P9.out (by decide) (by decide) 1 _))
        clear hW B9 X9 M9 Z9 P9 Q9 O9
        go_wp2_with (first | (refine stw.list_load rfl 26 _ rfl (bp) rfl 26 _ P10.out Try.underlying26 rfl szQ ?_) | (refine stw.list_store rfl 26 _ _ rfl (w.heap.size + 1 + 1) #[.slice (some ⟨g, 0, none⟩) n c3, .int .i64 u] rfl rfl 26 _ Z10.out rfl szQ (oneQ _ _ _ _) ?_; intro wz11 hz))
        have B11 := Lib.hid (hz.on B10.out (by have hlP := LP.out; have hs0 := LTX.out; have hs1 := LTM.out; have hs2 := LTZ.out; have hs3 := SS1.out; have hs4 := SS2.out; have hs5 := SS3.out; have hs6 := SS4.out; have hs7 := SS8.out; first | omega | (simp <;> omega)))
        have X11 := Lib.hid (hz.keep X10.out (by have hlP := LP.out; have hs0 := LTX.out; have hs1 := LTM.out; have hs2 := LTZ.out; have hs3 := SS1.out; have hs4 := SS2.out; have hs5 := SS3.out; have hs6 := SS4.out; have hs7 := SS8.out; first | omega | (simp <;> omega)))
        have M11 := Lib.hid (hz.keep M10.out (by have hlP := LP.out; have hs0 := LTX.out; have hs1 := LTM.out; have hs2 := LTZ.out; have hs3 := SS1.out; have hs4 := SS2.out; have hs5 := SS3.out; have hs6 := SS4.out; have hs7 := SS8.out; first | omega | (simp <;> omega)))
        have Z11 := Lib.hid (hz.box)
        have P11 := Lib.hid (hz.keep P10.out (by have hlP := LP.out; have hs0 := LTX.out; have hs1 := LTM.out; have hs2 := LTZ.out; have hs3 := SS1.out; have hs4 := SS2.out; have hs5 := SS3.out; have hs6 := SS4.out; have hs7 := SS8.out; first | omega | (simp <;> omega)))
        have Q11 := Lib.hid (Q10.out.same hz.below.size fun b h1 h2 => hz.other b (by have hlP := LP.out; have hs0 := LTX.out; have hs1 := LTM.out; have hs2 := LTZ.out; have hs3 := SS1.out; have hs4 := SS2.out; have hs5 := SS3.out; have hs6 := SS4.out; have hs7 := SS8.out; first | omega | (simp <;> omega)))
        have O11 := Lib.hid (rgp.oe_set O10.out Z10.out (by decide) (by decide) hz.below.size (fun k hk => hz.other k hk))
        clear hz B10 X10 M10 Z10 P10 Q10 O10
        (try simp only [Exit.inBlock, Exit.then])
        refine bodyPost_ret (v := .agg #[.slice (some ⟨g, 0, none⟩) n c3, .int .i64 u]) ?_ rfl ?_
        · rw [results_cell1 rfl]
          exact stw.back Z11.out Try.underlying26 rfl szQ
        · exact by rw [HE.out]; exact ⟨_, _, _, rfl, ⟨_, by rw [map_erase, HEQ.out], (O11.out).up.down (by have hlP := LP.out; have hs0 := LTX.out; have hs1 := LTM.out; have hs2 := LTZ.out; have hs3 := SS1.out; have hs4 := SS2.out; have hs5 := SS3.out; have hs6 := SS4.out; have hs7 := SS8.out; first | omega | (simp <;> omega))⟩, B11.out⟩
    | false =>
      have HE := Lib.hid (show enq ms d x = (ms, d) by unfold enq; rw [HQV.out, HMV.out]; rfl)
      go_wp2_with (first | (refine stw.list_load rfl 26 _ rfl (bp) rfl 26 _ P4.out Try.underlying26 rfl szQ ?_) | (refine stw.list_store rfl 26 _ _ rfl (w.heap.size + 1 + 1) #[.slice A1 n c1, .int .i64 d] rfl rfl 26 _ Z4.out rfl szQ (oneQ _ _ _ _) ?_; intro wz5 hz))
      have B5 := Lib.hid (hz.on B4.out (by have hlP := LP.out; have hs0 := LTX.out; have hs1 := LTM.out; have hs2 := LTZ.out; have hs3 := SS1.out; have hs4 := SS2.out; have hs5 := SS3.out; have hs6 := SS4.out; first | omega | (simp <;> omega)))
      have X5 := Lib.hid (hz.keep X4.out (by have hlP := LP.out; have hs0 := LTX.out; have hs1 := LTM.out; have hs2 := LTZ.out; have hs3 := SS1.out; have hs4 := SS2.out; have hs5 := SS3.out; have hs6 := SS4.out; first | omega | (simp <;> omega)))
      have M5 := Lib.hid (hz.keep M4.out (by have hlP := LP.out; have hs0 := LTX.out; have hs1 := LTM.out; have hs2 := LTZ.out; have hs3 := SS1.out; have hs4 := SS2.out; have hs5 := SS3.out; have hs6 := SS4.out; first | omega | (simp <;> omega)))
      have Z5 := Lib.hid (hz.box)
      have P5 := Lib.hid (hz.keep P4.out (by have hlP := LP.out; have hs0 := LTX.out; have hs1 := LTM.out; have hs2 := LTZ.out; have hs3 := SS1.out; have hs4 := SS2.out; have hs5 := SS3.out; have hs6 := SS4.out; first | omega | (simp <;> omega)))
      have Q5 := Lib.hid (Q4.out.same hz.below.size fun b h1 h2 => hz.other b (by have hlP := LP.out; have hs0 := LTX.out; have hs1 := LTM.out; have hs2 := LTZ.out; have hs3 := SS1.out; have hs4 := SS2.out; have hs5 := SS3.out; have hs6 := SS4.out; first | omega | (simp <;> omega)))
      have R5 := Lib.hid (R4.out.same hz.below.size fun b h1 h2 => hz.other b (by have hlP := LP.out; have hs0 := LTX.out; have hs1 := LTM.out; have hs2 := LTZ.out; have hs3 := SS1.out; have hs4 := SS2.out; have hs5 := SS3.out; have hs6 := SS4.out; first | omega | (simp <;> omega)))
      have O5 := Lib.hid (rgp.oe_set O4.out Z4.out (by decide) (by decide) hz.below.size (fun k hk => hz.other k hk))
      clear hz B4 X4 M4 Z4 P4 Q4 R4 O4
      (try simp only [Exit.inBlock, Exit.then])
      refine bodyPost_ret (v := .agg #[.slice A1 n c1, .int .i64 d]) ?_ rfl ?_
      · rw [results_cell1 rfl]
        exact stw.back Z5.out Try.underlying26 rfl szQ
      · exact by rw [HE.out]; exact ⟨_, _, _, rfl, ⟨_, HES.out, (O5.out).up.down (by have hlP := LP.out; have hs0 := LTX.out; have hs1 := LTM.out; have hs2 := LTZ.out; have hs3 := SS1.out; have hs4 := SS2.out; have hs5 := SS3.out; have hs6 := SS4.out; first | omega | (simp <;> omega))⟩, B5.out⟩
  | false =>
    have HE := Lib.hid (show enq ms d x = (ms, d) by unfold enq; rw [HQV.out]; rfl)
    go_wp2_with (first | (refine stw.list_load rfl 26 _ rfl (bp) rfl 26 _ P3.out Try.underlying26 rfl szQ ?_) | (refine stw.list_store rfl 26 _ _ rfl (w.heap.size + 1 + 1) #[.slice A1 n c1, .int .i64 d] rfl rfl 26 _ Z3.out rfl szQ (oneQ _ _ _ _) ?_; intro wz4 hz))
    have B4 := Lib.hid (hz.on B3.out (by have hlP := LP.out; have hs0 := LTX.out; have hs1 := LTM.out; have hs2 := LTZ.out; have hs3 := SS1.out; have hs4 := SS2.out; have hs5 := SS3.out; first | omega | (simp <;> omega)))
    have X4 := Lib.hid (hz.keep X3.out (by have hlP := LP.out; have hs0 := LTX.out; have hs1 := LTM.out; have hs2 := LTZ.out; have hs3 := SS1.out; have hs4 := SS2.out; have hs5 := SS3.out; first | omega | (simp <;> omega)))
    have M4 := Lib.hid (hz.keep M3.out (by have hlP := LP.out; have hs0 := LTX.out; have hs1 := LTM.out; have hs2 := LTZ.out; have hs3 := SS1.out; have hs4 := SS2.out; have hs5 := SS3.out; first | omega | (simp <;> omega)))
    have Z4 := Lib.hid (hz.box)
    have P4 := Lib.hid (hz.keep P3.out (by have hlP := LP.out; have hs0 := LTX.out; have hs1 := LTM.out; have hs2 := LTZ.out; have hs3 := SS1.out; have hs4 := SS2.out; have hs5 := SS3.out; first | omega | (simp <;> omega)))
    have Q4 := Lib.hid (Q3.out.same hz.below.size fun b h1 h2 => hz.other b (by have hlP := LP.out; have hs0 := LTX.out; have hs1 := LTM.out; have hs2 := LTZ.out; have hs3 := SS1.out; have hs4 := SS2.out; have hs5 := SS3.out; first | omega | (simp <;> omega)))
    have R4 := Lib.hid (R3.out.same hz.below.size fun b h1 h2 => hz.other b (by have hlP := LP.out; have hs0 := LTX.out; have hs1 := LTM.out; have hs2 := LTZ.out; have hs3 := SS1.out; have hs4 := SS2.out; have hs5 := SS3.out; first | omega | (simp <;> omega)))
    have O4 := Lib.hid (rgp.oe_set O3.out Z3.out (by decide) (by decide) hz.below.size (fun k hk => hz.other k hk))
    clear hz B3 X3 M3 Z3 P3 Q3 R3 O3
    (try simp only [Exit.inBlock, Exit.then])
    refine bodyPost_ret (v := .agg #[.slice A1 n c1, .int .i64 d]) ?_ rfl ?_
    · rw [results_cell1 rfl]
      exact stw.back Z4.out Try.underlying26 rfl szQ
    · exact by rw [HE.out]; exact ⟨_, _, _, rfl, ⟨_, HES.out, (O4.out).up.down (by have hlP := LP.out; have hs0 := LTX.out; have hs1 := LTM.out; have hs2 := LTZ.out; have hs3 := SS1.out; have hs4 := SS2.out; have hs5 := SS3.out; first | omega | (simp <;> omega))⟩, B4.out⟩
end Go.Proofs.Ytjmenbpalihnnaa.mq
end
