/- Merged texts of this seat. Qc1: CountCategory and NextMessage of both sides, the search by an order. Condition: none. | Qc2: IsValidMessage, IsValidQueue, NextMessage of both sides. Condition: none. | Qh1: The harness over messages and queues: sizes, copies, comparison, marks. Condition: sizes up to 2^26. | Uw22: The harness over numbered frames, slices of them and reorder buffers. Condition: sizes up to 2^26. | Ro1: New buffers, and which are valid; program and specification. Condition: none. | Enc: Varints as lists of numbers: the encoding, the decoding, and that each undoes the other. Condition: none (no program). | Uv: The functions of varints, program and specification: AppendUvarint. Condition: lengths up to 2^27. | Ro2: New buffers and copies, program and specification. Condition: sizes up to 2^26. | Ro3: The window of a valid buffer, by the program. Condition: the buffer is valid. -/
import Derived.Deep.Cut
import Derived.Laws.MakeOwn
import Derived.Deep.QuietTactic
import Derived.Laws.Bits128
import Derived.Test.YtmmhleobgpgliaaG1
import Derived.Test.YtmmhleobgpgliaaG4
section
namespace Go.Proofs.Ytmmhleobgpgliaa.mq
open Go.RowKit sl harn bx mrw
set_option linter.unusedVariables false
set_option linter.unusedSimpArgs false

theorem quiet_nilc {P : Program} {C : World → Prop} {a : Act} {o : Oper} {K : Act → Prop} (x : Operand) (h : o.op = .nilCheck x) (T : TypeId) (v : Value) (nm : String) (hx : a.eval x = .func (.method nm) #[.iface T v] #[])
    (hn : ∀ w, (nilAhead (P.types.size + Made.depth) T v nm).run P w = .ok (some false) w) (hk : K (a.put o.dst (.func (.method nm) #[.iface T v] #[]))) : o.quiet P a C K := by
  refine ⟨_, fun w _ => ?_, hk⟩
  unfold Oper.quietAt Oper.quietUpon execOp
  simp only [h, hx]
  simp [Sem.run_bind, hn]
theorem quiet_inv {P : Program} {C : World → Prop} {a : Act} {o : Oper} {K : Act → Prop} (r p q : Operand) (nm : String) (ts : Array TypeId) (h : o.op = .call { callee := .invoke r nm, args := #[p, q], argTypes := ts }) (T : TypeId) (rv pv qv : Value)
    (hr : a.eval r = .iface T rv) (hp : a.eval p = pv) (hq : a.eval q = qv) (f : FuncId) (args : Array Value) (v : Value) (hi : ∀ w, (invoke (.fn (.method nm) #[]) #[.iface T rv, pv, qv]).run P w = .ok (.enter f args) w)
    (hc : ∀ w, C w → Calls P f args w fun e w' => e = .returned v ∧ C w') (hk : K (a.put o.dst v)) : o.quiet P a C K := by
  refine ⟨v, fun w hw => ?_, hk⟩
  unfold Oper.quietAt Oper.quietUpon execOp
  simp only [h, resolve, Sem.run_bind, Sem.run_pure, Result.andThen_ok, List.map_toArray, List.map_cons, List.map_nil, hr, hp, hq]
  have e : (#[(.iface T rv : Value)] ++ #[pv, qv] : Array Value) = #[.iface T rv, pv, qv] := rfl
  rw [e, hi]
  exact ⟨rfl, hc w hw⟩
theorem nc_at {base : World} {P : Program} {f : FuncId} {args : Array Value} {v : Value} (h : ∀ m : Af base, Calls P f args m.w fun e w' => e = .returned v ∧ Below m.w.heap.size m.w w') : ∀ w, (∃ n : Af base, w = n.w) → Calls P f args w fun e w' => e = .returned v ∧ ∃ n : Af base, w' = n.w :=
  fun w hw => by
    obtain ⟨n, rfl⟩ := hw
    exact Af.call (h n)
end Go.Proofs.Ytmmhleobgpgliaa.mq
end

section
namespace Go.Proofs.Ytmmhleobgpgliaa.mq
open Go.RowKit sl harn bx mrw
set_option linter.unusedVariables false
set_option linter.unusedSimpArgs false

theorem all_vm {ms : List Msg} {n : Nat} (hl : ms.length = n) (h : ∀ j, j < n → vm (ms.getD j zm) = true) : ms.all vm = true := by
  rw [List.all_eq_true]
  intro x hx
  obtain ⟨j, hj, e⟩ := List.getElem_of_mem hx
  have := h j (by omega)
  rw [List.getD_eq_getElem?_getD, List.getElem?_eq_getElem hj] at this
  simpa [e] using this
theorem not_vm {ms : List Msg} {n j : Nat} (hl : ms.length = n) (hj : j < n) (h : vm (ms.getD j zm) = false) : ms.all vm = false := by
  rw [List.all_eq_false]
  refine ⟨ms[j], List.getElem_mem (by omega), ?_⟩
  rw [List.getD_eq_getElem?_getD, List.getElem?_eq_getElem (show j < ms.length by omega)] at h
  simpa using h
end Go.Proofs.Ytmmhleobgpgliaa.mq
end

section
namespace Go.Proofs.Ytmmhleobgpgliaa.mq
open Go.RowKit sl harn bx mrw
set_option linter.unusedVariables false
set_option linter.unusedSimpArgs false

theorem oneM (a b c : Int) (A : Option Addr) (n k : Nat) : (#[.int .i64 a, .int .i64 b, .int .i64 c, .slice A n k] : Array Value).all (·.oneCell') = true :=
  all_oneCell_toArray (cs := [.int .i64 a, .int .i64 b, .int .i64 c, .slice A n k]) (by intro v hv; simp only [List.mem_cons, List.not_mem_nil, or_false] at hv; rcases hv with rfl | rfl | rfl | rfl <;> rfl)
theorem oneQ (A : Option Addr) (n k : Nat) (a : Int) : (#[.slice A n k, .int .i64 a] : Array Value).all (·.oneCell') = true :=
  all_oneCell_toArray (cs := [.slice A n k, .int .i64 a]) (by intro v hv; simp only [List.mem_cons, List.not_mem_nil, or_false] at hv; rcases hv with rfl | rfl <;> rfl)
theorem run_makeS {P : Program} (t e : TypeId) (i : TypeInfo) (z : Value) (s : Nat) (ht : P.underlying t = some (.slice e)) (hi : P.info? e = some i) (hz : i.zero = some z) (hs : i.size = s)
    (n : Nat) (hb8 : i.bytes ≤ 128) (hn : n ≤ 67108864) (w : World) :
    (Instr.makeSlice t (.int .i64 (n : Int)) (.int .i64 (n : Int))).run P w = .ok (.slice (some ⟨w.heap.size, 0, none⟩) n n) (w.alloc (.cells (madeCells z.cells (n * s)) e)) := by
  have hb : (i.bytes : Int) * (n : Int) ≤ 281474976710656 := by
    have h : ((i.bytes * n : Nat) : Int) ≤ 281474976710656 := by
      have h1 := Nat.mul_le_mul hb8 hn
      omega
    rwa [Int.natCast_mul] at h
  have hr := run_make (P := P) w t e i z ht hi hz .i64 .i64 n n (by omega) (by omega) hb (by omega)
  simp only [Int.toNat_natCast] at hr
  rw [hs] at hr
  exact hr
/-- What remains of a bound behind t: -1 if it does not suffice. -/
def SzPost (left : Int) (t : Nat) (w : World) (e : Ending) (w' : World) : Prop := ∃ r : Int, e = .returned (.int .i64 r) ∧ ((r = -1 ∧ left < t) ∨ (r = left - t ∧ (t : Int) ≤ left)) ∧ Below w.heap.size w w'
theorem szB_in (A : Option Addr) (n cap : Nat) (left : Int) (hl : 0 ≤ left ∧ left ≤ 1048576) (hn : (n : Int) ≤ 9223372036854775807) (hle : (n : Int) ≤ left) (w : World) :
    Calls Try.prog 105 #[.slice A n cap, .int .i64 left] w fun e w' => e = .returned (.int .i64 (left - n)) ∧ w = w' := by
  obtain ⟨h0, h1⟩ := hl
  have hd : IntKind.i64.wrap (left - n) = left - n := IntWalk.i64_in _ (by omega)
  have hq : ¬ left - n < 0 := by omega
  go_enter Try.func105, Try.ntmps105
  go_wp2
  go_ret
  exact ⟨rfl, rfl⟩
theorem szB_out (A : Option Addr) (n cap : Nat) (left : Int) (hl : 0 ≤ left ∧ left ≤ 1048576) (hn : (n : Int) ≤ 9223372036854775807) (hle : left < (n : Int)) (w : World) :
    Calls Try.prog 105 #[.slice A n cap, .int .i64 left] w fun e w' => e = .returned (.int .i64 (-1)) ∧ w = w' := by
  obtain ⟨h0, h1⟩ := hl
  have hd : IntKind.i64.wrap (left - n) = left - n := IntWalk.i64_in _ (by omega)
  have hq : left - n < 0 := by omega
  go_enter Try.func105, Try.ntmps105
  go_wp2
  go_ret
  exact ⟨rfl, rfl⟩
end Go.Proofs.Ytmmhleobgpgliaa.mq
end

section
namespace Go.Proofs.Ytmmhleobgpgliaa.ux
open Go.RowKit sl harn bx stw
set_option linter.unusedVariables false
set_option linter.unusedSimpArgs false

theorem infoNf : (Try.prog.info? 85).map (fun i => (i.zero, i.size, i.bytes)) = some (some (.agg #[.int .i64 0, .slice none 0 0]), 2, 32) := by kernel_rfl
theorem szLNf : (Try.prog.info? 113).map (·.size) = some 2 := by kernel_rfl
set_option maxRecDepth 100000 in
set_option maxHeartbeats 4000000 in
theorem szNumberedFrame {w : World} {lo hi : Nat} {v : Value} {x : Nf} (left : Int) (hl : 0 ≤ left ∧ left ≤ 1048576) (h : RR nf w lo hi v x) :
    Calls Try.prog 99 #[v, .int .i64 left] w (ZPost left (nf.sz x) w) := by
  have LH := Lib.hid h.hi_
  obtain ⟨A0, n0, c0, rfl, g0⟩ := nf_r h
  show Calls Try.prog 99 #[nfV x (.slice A0 n0 c0), .int .i64 left] w (ZPost left (bytes.sz x.Body) w)
  have P0W := Lib.hid g0
  have LL0 := Lib.hid hl
  clear h hl g0
  obtain ⟨s0, hs0⟩ : ∃ s, bytes.sz x.Body = s := ⟨_, rfl⟩
  rw [hs0]
  have HS0 := Lib.hid hs0
  clear hs0
  go_enter Try.func99, Try.ntmps99
  go_wp2_with fail
  obtain ⟨w0, hW⟩ : ∃ w0, w.alloc (.cells #[.int .i64 x.Seq, .slice A0 n0 c0] 113) = w0 := ⟨_, rfl⟩
  rw [hW]
  have B0 := Lib.hid (show Below w.heap.size w w0 by rw [← hW]; exact (Below.refl _ _).alloc (by simp <;> omega) _)
  have X0 := Lib.hid (show Bx 113 w0 (w.heap.size) #[.int .i64 x.Seq, .slice A0 n0 c0] by
      rw [← hW]
      have hh := Bx.made 113 w #[.int .i64 x.Seq, .slice A0 n0 c0]
      exact hh)
  have P00 := Lib.hid (show RR bytes w0 lo hi (.slice A0 n0 c0) x.Body by rw [← hW]; exact (P0W.out.below (below_box _ _)))
  clear hW
  have LTX := Lib.hid X0.out.lt
  (with_reducible refine (szByteS left LL0.out P00.out).mono ?_)
  rintro e w1 hp
  obtain ⟨r0, rfl, hor, hb⟩ := hp.parts
  rw [HS0.out] at hor
  clear hp
  have SS1 := Lib.hid hb.size
  have B1 := Lib.hid (B0.out.trans (hb.mono B0.out.size))
  have X1 := Lib.hid (X0.out.below hb)
  have P01 := Lib.hid (P00.out.below hb)
  clear hb B0 X0 P00
  rcases hor with ⟨hm, hlo⟩ | ⟨hr, hle⟩
  · subst hm
    have HLO := Lib.hid hlo
    clear hlo
    go_wp2_with fail
    go_ret
    exact ⟨-1, rfl, .inl ⟨rfl, by  have q9 := HLO.out; omega⟩, B1.out⟩
  · have HR0 := Lib.hid hr
    have HE0 := Lib.hid hle
    have hng : ¬ r0 < 0 := by omega
    have LL1 := Lib.hid (show 0 ≤ r0 ∧ r0 ≤ 1048576 by have q9 := LL0.out; omega)
    clear hr hle
    have cX0 : w1.cell? ⟨w.heap.size, 0, none⟩ = some (.int .i64 x.Seq) := X1.out.cell 0
    have cX1 : w1.cell? ⟨w.heap.size, 1, none⟩ = some (.slice A0 n0 c0) := X1.out.cell 1
    go_wp2_with fail
    clear cX0 cX1
    go_ret
    exact ⟨r0, rfl, .inr ⟨by  have q0 := HR0.out; have p0 := HE0.out; omega, by  have q0 := HR0.out; have p0 := HE0.out; omega⟩, B1.out⟩
set_option maxRecDepth 100000 in
set_option maxHeartbeats 4000000 in
theorem toNumberedFrame {w : World} {lo hi : Nat} {v : Value} {x : Nf} (h : RR nf w lo hi v x) (hs : nf.sz x ≤ 67108864) :
    Calls Try.prog 100 #[v] w (ToPost nf x w) := by
  have LH := Lib.hid h.hi_
  obtain ⟨A0, n0, c0, rfl, g0⟩ := nf_r h
  have P0W := Lib.hid g0
  have hs9 : bytes.sz x.Body ≤ 67108864 := hs
  have HS0 := Lib.hid (show bytes.sz x.Body ≤ 67108864 by omega)
  clear hs9
  clear h hs g0
  go_enter Try.func100, Try.ntmps100
  go_upto_region 2 with fail
  obtain ⟨w0, hW⟩ : ∃ w0, ((w.alloc (.cells #[.int .i64 x.Seq, .slice A0 n0 c0] 113)).alloc (.cells #[.int .i64 0, .slice none 0 0] 85)).alloc (.cells #[.int .i64 0, .slice none 0 0] 85) = w0 := ⟨_, rfl⟩
  rw [hW]
  have B0 := Lib.hid (show Below w.heap.size w w0 by rw [← hW]; exact (((Below.refl _ _).alloc (by simp <;> omega) _).alloc (by simp <;> omega) _).alloc (by simp <;> omega) _)
  have X0 := Lib.hid (show Bx 113 w0 (w.heap.size) #[.int .i64 x.Seq, .slice A0 n0 c0] by
      rw [← hW]
      have hh := Bx.made 113 w #[.int .i64 x.Seq, .slice A0 n0 c0]
      exact ((hh.below (below_box _ _)).below (below_box _ _)))
  have Z0 := Lib.hid (show Bx 85 w0 (w.heap.size + 1) #[.int .i64 0, .slice none 0 0] by
      rw [← hW]
      have hh : Bx 85 ((w.alloc (.cells #[.int .i64 x.Seq, .slice A0 n0 c0] 113)).alloc (.cells #[.int .i64 0, .slice none 0 0] 85)) (w.heap.size + 1) #[.int .i64 0, .slice none 0 0] := by have hh := Bx.made 85 (w.alloc (.cells #[.int .i64 x.Seq, .slice A0 n0 c0] 113)) #[.int .i64 0, .slice none 0 0]; simpa using hh
      exact (hh.below (below_box _ _)))
  have O0 := Lib.hid (show Bx 85 w0 (w.heap.size + 1 + 1) #[.int .i64 0, .slice none 0 0] by
      rw [← hW]
      have hh : Bx 85 (((w.alloc (.cells #[.int .i64 x.Seq, .slice A0 n0 c0] 113)).alloc (.cells #[.int .i64 0, .slice none 0 0] 85)).alloc (.cells #[.int .i64 0, .slice none 0 0] 85)) (w.heap.size + 1 + 1) #[.int .i64 0, .slice none 0 0] := by have hh := Bx.made 85 ((w.alloc (.cells #[.int .i64 x.Seq, .slice A0 n0 c0] 113)).alloc (.cells #[.int .i64 0, .slice none 0 0] 85)) #[.int .i64 0, .slice none 0 0]; simpa using hh
      exact hh)
  have P00 := Lib.hid (show RR bytes w0 lo hi (.slice A0 n0 c0) x.Body by rw [← hW]; exact (((P0W.out.below (below_box _ _)).below (below_box _ _)).below (below_box _ _)))
  clear hW
  have LTX := Lib.hid X0.out.lt
  have LTZ := Lib.hid Z0.out.lt
  have LTO := Lib.hid O0.out.lt
  have cX0 : w0.cell? ⟨w.heap.size, 0, none⟩ = some (.int .i64 x.Seq) := X0.out.cell 0
  have cX1 : w0.cell? ⟨w.heap.size, 1, none⟩ = some (.slice A0 n0 c0) := X0.out.cell 1
  have cO0 : w0.cell? ⟨w.heap.size + 1 + 1, 0, none⟩ = some (.int .i64 0) := O0.out.cell 0
  have cO1 : w0.cell? ⟨w.heap.size + 1 + 1, 1, none⟩ = some (.slice none 0 0) := O0.out.cell 1
  have fO0 : w0.frozen? ⟨w.heap.size + 1 + 1, 0, none⟩ = false := O0.out.free 0
  have fO1 : w0.frozen? ⟨w.heap.size + 1 + 1, 1, none⟩ = false := O0.out.free 1
  go_wp2_with fail
  clear cX0 cX1 cO0 cO1 fO0 fO1
  have hWW : (w0.setCell ⟨w.heap.size + 1 + 1, 0, none⟩ (.int .i64 x.Seq)) = (w0.setCell ⟨w.heap.size + 1 + 1, 0, none⟩ (.int .i64 x.Seq)) := rfl
  obtain ⟨w1, hW⟩ : ∃ wy, (w0.setCell ⟨w.heap.size + 1 + 1, 0, none⟩ (.int .i64 x.Seq)) = wy := ⟨_, rfl⟩
  rw [hW]
  clear hWW
  have B1 := Lib.hid (show Below w.heap.size w w1 by rw [← hW]; exact (B0.out.setCell (p := ⟨w.heap.size + 1 + 1, 0, none⟩) (by have hs0 := LTX.out; have hs1 := LTZ.out; have hs2 := LTO.out; have hs3 := LH.out; first | omega | (simp <;> omega)) _))
  have X1 := Lib.hid (show Bx 113 w1 (w.heap.size) #[.int .i64 x.Seq, .slice A0 n0 c0] by rw [← hW]; exact (X0.out.other (by have hs0 := LTX.out; have hs1 := LTZ.out; have hs2 := LTO.out; have hs3 := LH.out; first | omega | (simp <;> omega)) _ _))
  have Z1 := Lib.hid (show Bx 85 w1 (w.heap.size + 1) #[.int .i64 0, .slice none 0 0] by rw [← hW]; exact (Z0.out.other (by have hs0 := LTX.out; have hs1 := LTZ.out; have hs2 := LTO.out; have hs3 := LH.out; first | omega | (simp <;> omega)) _ _))
  have O1 := Lib.hid (show Bx 85 w1 (w.heap.size + 1 + 1) #[.int .i64 x.Seq, .slice none 0 0] by rw [← hW]; exact (O0.out.set 0 _))
  have P01 := Lib.hid (show RR bytes w1 lo hi (.slice A0 n0 c0) x.Body by rw [← hW]; exact (P00.out.same (by simp [World.setCell]) fun b h1 h2 => by rw [Below.heap_setCell _ _ _ _ (by have hs0 := LTX.out; have hs1 := LTZ.out; have hs2 := LTO.out; have hs3 := LH.out; first | omega | (simp <;> omega))]))
  clear hW B0 X0 Z0 O0 P00
  have SP1 := Lib.hid O1.out.lt
  (with_reducible refine (toByteS P01.out HS0.out).mono ?_)
  rintro e w2 hp
  obtain ⟨u0, f0, rfl, ho, hb⟩ := hp.parts
  obtain ⟨Ab0, nb0, cb0, rfl⟩ := bytes_slo ho.1
  clear hp
  have SS2 := Lib.hid hb.size
  have B2 := Lib.hid (B1.out.trans (hb.mono B1.out.size))
  have X2 := Lib.hid (X1.out.below hb)
  have Z2 := Lib.hid (Z1.out.below hb)
  have O2 := Lib.hid (O1.out.below hb)
  have P02 := Lib.hid (P01.out.below hb)
  clear hb B1 X1 Z1 O1 P01
  have N02 := Lib.hid ho
  clear ho
  have cX0 : w2.cell? ⟨w.heap.size, 0, none⟩ = some (.int .i64 x.Seq) := X2.out.cell 0
  have cX1 : w2.cell? ⟨w.heap.size, 1, none⟩ = some (.slice A0 n0 c0) := X2.out.cell 1
  have cO0 : w2.cell? ⟨w.heap.size + 1 + 1, 0, none⟩ = some (.int .i64 x.Seq) := O2.out.cell 0
  have cO1 : w2.cell? ⟨w.heap.size + 1 + 1, 1, none⟩ = some (.slice none 0 0) := O2.out.cell 1
  have fO0 : w2.frozen? ⟨w.heap.size + 1 + 1, 0, none⟩ = false := O2.out.free 0
  have fO1 : w2.frozen? ⟨w.heap.size + 1 + 1, 1, none⟩ = false := O2.out.free 1
  go_upto_region 4 with fail
  clear cX0 cX1 cO0 cO1 fO0 fO1
  have hWW : (w2.setCell ⟨w.heap.size + 1 + 1, 1, none⟩ (.slice Ab0 nb0 cb0)) = (w2.setCell ⟨w.heap.size + 1 + 1, 1, none⟩ (.slice Ab0 nb0 cb0)) := rfl
  obtain ⟨w3, hW⟩ : ∃ wy, (w2.setCell ⟨w.heap.size + 1 + 1, 1, none⟩ (.slice Ab0 nb0 cb0)) = wy := ⟨_, rfl⟩
  rw [hW]
  clear hWW
  have B3 := Lib.hid (show Below w.heap.size w w3 by rw [← hW]; exact (B2.out.setCell (p := ⟨w.heap.size + 1 + 1, 1, none⟩) (by have hs0 := LTX.out; have hs1 := LTZ.out; have hs2 := LTO.out; have hs3 := LH.out; have hs4 := SP1.out; have hs5 := SS2.out; first | omega | (simp <;> omega)) _))
  have X3 := Lib.hid (show Bx 113 w3 (w.heap.size) #[.int .i64 x.Seq, .slice A0 n0 c0] by rw [← hW]; exact (X2.out.other (by have hs0 := LTX.out; have hs1 := LTZ.out; have hs2 := LTO.out; have hs3 := LH.out; have hs4 := SP1.out; have hs5 := SS2.out; first | omega | (simp <;> omega)) _ _))
  have Z3 := Lib.hid (show Bx 85 w3 (w.heap.size + 1) #[.int .i64 0, .slice none 0 0] by rw [← hW]; exact (Z2.out.other (by have hs0 := LTX.out; have hs1 := LTZ.out; have hs2 := LTO.out; have hs3 := LH.out; have hs4 := SP1.out; have hs5 := SS2.out; first | omega | (simp <;> omega)) _ _))
  have O3 := Lib.hid (show Bx 85 w3 (w.heap.size + 1 + 1) #[.int .i64 x.Seq, .slice Ab0 nb0 cb0] by rw [← hW]; exact (O2.out.set 1 _))
  have P03 := Lib.hid (show RR bytes w3 lo hi (.slice A0 n0 c0) x.Body by rw [← hW]; exact (P02.out.same (by simp [World.setCell]) fun b h1 h2 => by rw [Below.heap_setCell _ _ _ _ (by have hs0 := LTX.out; have hs1 := LTZ.out; have hs2 := LTO.out; have hs3 := LH.out; have hs4 := SP1.out; have hs5 := SS2.out; first | omega | (simp <;> omega))]))
  have N03 := Lib.hid (show OO bytes w3 w1.heap.size w2.heap.size f0 (.slice Ab0 nb0 cb0) x.Body by rw [← hW]; exact (N02.out.same (by simp [World.setCell]) fun b h1 h2 => by rw [Below.heap_setCell _ _ _ _ (by have hs0 := LTX.out; have hs1 := LTZ.out; have hs2 := LTO.out; have hs3 := LH.out; have hs4 := SP1.out; have hs5 := SS2.out; first | omega | (simp <;> omega))]))
  clear hW B2 X2 Z2 O2 P02 N02
  go_wp2_with (first | (refine stw.list_load rfl 85 _ rfl (w.heap.size + 1 + 1) rfl 85 _ O3.out Try.underlying85 rfl szNf ?_) | (refine stw.list_store rfl 85 _ _ rfl (w.heap.size + 1) #[.int .i64 x.Seq, .slice Ab0 nb0 cb0] rfl rfl 85 _ Z3.out rfl szNf (oneNf _ _ _ _) ?_; intro wz4 hz))
  have B4 := Lib.hid (hz.on B3.out (by have hs0 := LTX.out; have hs1 := LTZ.out; have hs2 := LTO.out; have hs3 := LH.out; have hs4 := SP1.out; have hs5 := SS2.out; first | omega | (simp <;> omega)))
  have X4 := Lib.hid (hz.keep X3.out (by have hs0 := LTX.out; have hs1 := LTZ.out; have hs2 := LTO.out; have hs3 := LH.out; have hs4 := SP1.out; have hs5 := SS2.out; first | omega | (simp <;> omega)))
  have Z4 := Lib.hid (hz.box)
  have O4 := Lib.hid (hz.keep O3.out (by have hs0 := LTX.out; have hs1 := LTZ.out; have hs2 := LTO.out; have hs3 := LH.out; have hs4 := SP1.out; have hs5 := SS2.out; first | omega | (simp <;> omega)))
  have P04 := Lib.hid (P03.out.same hz.below.size fun b h1 h2 => hz.other b (by have hs0 := LTX.out; have hs1 := LTZ.out; have hs2 := LTO.out; have hs3 := LH.out; have hs4 := SP1.out; have hs5 := SS2.out; first | omega | (simp <;> omega)))
  have N04 := Lib.hid (N03.out.same hz.below.size fun b h1 h2 => hz.other b (by have hs0 := LTX.out; have hs1 := LTZ.out; have hs2 := LTO.out; have hs3 := LH.out; have hs4 := SP1.out; have hs5 := SS2.out; first | omega | (simp <;> omega)))
  clear hz B3 X3 Z3 O3 P03 N03
  (try simp only [Exit.inBlock, Exit.then])
  refine bodyPost_ret (v := .agg #[.int .i64 x.Seq, .slice Ab0 nb0 cb0]) ?_ rfl ?_
  · rw [results_cell1 rfl]
    exact stw.back Z4.out Try.underlying85 rfl szNf
  · exact ⟨_, _, rfl, nf_mk (N04.out.wide (by have hs0 := LTX.out; have hs1 := LTZ.out; have hs2 := LTO.out; have hs3 := LH.out; have hs4 := SP1.out; have hs5 := SS2.out;  first | omega | (simp <;> omega))) (bytes.nd N04.out.1), B4.out⟩
set_option maxRecDepth 100000 in
set_option maxHeartbeats 4000000 in
theorem eqNumberedFrame {w : World} {lo hi lo2 hi2 : Nat} {v u : Value} {x : Nf} (h : RR nf w lo hi v x) (h2 : RR nf w lo2 hi2 u x) :
    Calls Try.prog 98 #[v, u] w (BPost true w) := by
  have LH := Lib.hid h.hi_
  have LH2 := Lib.hid h2.hi_
  obtain ⟨A0, n0, c0, rfl, g0⟩ := nf_r h
  obtain ⟨Ab0, nb0, cb0, rfl, gb0⟩ := nf_r h2
  have P0W := Lib.hid g0
  have Q0W := Lib.hid gb0
  clear h h2 g0 gb0
  go_enter Try.func98, Try.ntmps98
  go_wp2_with fail
  obtain ⟨w0, hW⟩ : ∃ w0, (w.alloc (.cells #[.int .i64 x.Seq, .slice A0 n0 c0] 85)).alloc (.cells #[.int .i64 x.Seq, .slice Ab0 nb0 cb0] 85) = w0 := ⟨_, rfl⟩
  rw [hW]
  have B0 := Lib.hid (show Below w.heap.size w w0 by rw [← hW]; exact ((Below.refl _ _).alloc (by simp <;> omega) _).alloc (by simp <;> omega) _)
  have X0 := Lib.hid (show Bx 85 w0 (w.heap.size) #[.int .i64 x.Seq, .slice A0 n0 c0] by
      rw [← hW]
      have hh := Bx.made 85 w #[.int .i64 x.Seq, .slice A0 n0 c0]
      exact (hh.below (below_box _ _)))
  have Y0 := Lib.hid (show Bx 85 w0 (w.heap.size + 1) #[.int .i64 x.Seq, .slice Ab0 nb0 cb0] by
      rw [← hW]
      have hh : Bx 85 ((w.alloc (.cells #[.int .i64 x.Seq, .slice A0 n0 c0] 85)).alloc (.cells #[.int .i64 x.Seq, .slice Ab0 nb0 cb0] 85)) (w.heap.size + 1) #[.int .i64 x.Seq, .slice Ab0 nb0 cb0] := by have hh := Bx.made 85 (w.alloc (.cells #[.int .i64 x.Seq, .slice A0 n0 c0] 85)) #[.int .i64 x.Seq, .slice Ab0 nb0 cb0]; simpa using hh
      exact hh)
  have P00 := Lib.hid (show RR bytes w0 lo hi (.slice A0 n0 c0) x.Body by rw [← hW]; exact ((P0W.out.below (below_box _ _)).below (below_box _ _)))
  have Q00 := Lib.hid (show RR bytes w0 lo2 hi2 (.slice Ab0 nb0 cb0) x.Body by rw [← hW]; exact ((Q0W.out.below (below_box _ _)).below (below_box _ _)))
  clear hW
  have LTX := Lib.hid X0.out.lt
  have LTY := Lib.hid Y0.out.lt
  (with_reducible refine (eqByteS P00.out Q00.out).mono ?_)
  rintro e w1 ⟨rfl, hb⟩
  have SS1 := Lib.hid hb.size
  have B1 := Lib.hid (B0.out.trans (hb.mono B0.out.size))
  have X1 := Lib.hid (X0.out.below hb)
  have Y1 := Lib.hid (Y0.out.below hb)
  have P01 := Lib.hid (P00.out.below hb)
  have Q01 := Lib.hid (Q00.out.below hb)
  clear hb B0 X0 Y0 P00 Q00
  have cX0 : w1.cell? ⟨w.heap.size, 0, none⟩ = some (.int .i64 x.Seq) := X1.out.cell 0
  have cX1 : w1.cell? ⟨w.heap.size, 1, none⟩ = some (.slice A0 n0 c0) := X1.out.cell 1
  have cY0 : w1.cell? ⟨w.heap.size + 1, 0, none⟩ = some (.int .i64 x.Seq) := Y1.out.cell 0
  have cY1 : w1.cell? ⟨w.heap.size + 1, 1, none⟩ = some (.slice Ab0 nb0 cb0) := Y1.out.cell 1
  go_wp2_with fail
  clear cX0 cX1 cY0 cY1
  go_ret
  exact ⟨rfl, B1.out⟩
set_option maxRecDepth 100000 in
set_option maxHeartbeats 4000000 in
theorem szNumberedFrameS {w : World} {lo hi : Nat} {v : Value} {xs : List Nf} (left : Int) (hleft : 0 ≤ left ∧ left ≤ 1048576) (h : RR rowNf w lo hi v xs) :
    Calls Try.prog 80 #[v, .int .i64 left] w (ZPost left (rowNf.sz xs) w) := by
  obtain ⟨A, n, c, rfl, hl, hnc, hcm⟩ := row_open h
  have HQ := Lib.hid h
  have HL := Lib.hid hl
  obtain ⟨h0, h1⟩ := hleft
  show Calls Try.prog 80 #[.slice A n c, .int .i64 left] w (ZPost left (xs.length + sumT nf.sz xs) w)
  rw [hl]
  obtain ⟨tt, htt⟩ : ∃ tt, sumT nf.sz xs = tt := ⟨_, rfl⟩
  rw [htt]
  have HTT := Lib.hid htt
  clear h hl htt
  have hd : IntKind.i64.wrap (left - n) = left - n := IntWalk.i64_in _ (by omega)
  by_cases hle : (n : Int) ≤ left
  · have hq : ¬ left - n < 0 := by omega
    go_enter Try.func80, Try.ntmps80
    go_wp2_with fail
    go_loopw [1, 5] (fun q i wr => ∃ (k : Nat) (r : Int), i = .int .i64 k ∧ q = .int .i64 r ∧ k ≤ n ∧ r = left - n - (sumT nf.sz (xs.take k) : Nat) ∧ 0 ≤ r ∧ Below w.heap.size w wr) (fun _ i _ => n - (intOf i).toNat)
    case atStart => exact ⟨0, _, rfl, rfl, by omega, by simp [sumT], by omega, Below.refl _ _⟩
    case round =>
      obtain ⟨k, r, rfl, rfl, hk, hr, hr0, hb⟩ := hrel
      have HB := Lib.hid hb
      have HR := Lib.hid (HQ.out.below hb)
      have HP := Lib.hid hr
      have HS := Lib.hid (show 0 ≤ r ∧ r ≤ 1048576 by omega)
      clear hb hr
      by_cases hlt : k < n
      · obtain ⟨b, off, y, u, hA, hy, hb1, hb2, hr, hu⟩ := row_at HR.out hlt
        obtain ⟨A0, n0, c0, rfl, g0⟩ := nf_r hu
        subst hA
        have HT := Lib.hid (take_snoc hy)
        have HU := Lib.hid (show RR nf wr lo hi (nfV y (.slice A0 n0 c0)) y from hu)
        have kc0 : wr.cell? ⟨b, off + k * 2, none⟩ = some (.int .i64 y.Seq) := hr 0 _ rfl
        have kc1 : wr.cell? ⟨b, off + k * 2 + 1, none⟩ = some (.slice A0 n0 c0) := hr 1 _ rfl
        have hlt2 : (k : Int) < n := by omega
        obtain ⟨sy, hsy⟩ : ∃ s, nf.sz y = s := ⟨_, rfl⟩
        have HBS := Lib.hid (show sumT nf.sz (xs.take (k + 1)) = sumT nf.sz (xs.take k) + sy by rw [HT.out, sumT_snoc, hsy])
        have HBL := Lib.hid (show sumT nf.sz (xs.take (k + 1)) ≤ tt by rw [← HTT.out]; exact sumT_take _ _ _)
        have HSY := Lib.hid hsy
        clear hy hu hr hsy g0
        go_wp2_with fail
        (with_reducible refine (szNumberedFrame r HS.out HU.out).mono ?_)
        rintro e w2 hp
        obtain ⟨r2, rfl, hor, hb2⟩ := hp.parts
        rw [HSY.out] at hor
        have HB2 := Lib.hid (HB.out.trans (hb2.mono HB.out.size))
        clear hb2 hp
        rcases hor with ⟨hm, hlo⟩ | ⟨h2, hle2⟩
        · subst hm
          have HE := Lib.hid (show left < ((n + tt : Nat) : Int) by have a1 := HP.out; have a2 := HBS.out; have a3 := HBL.out; omega)
          clear hlo
          go_wp2_with fail
          go_ret
          exact ⟨-1, rfl, Or.inl ⟨rfl, HE.out⟩, HB2.out⟩
        · have hng : ¬ r2 < 0 := by omega
          have HH := Lib.hid h2
          clear h2 hle2
          have HR2 := Lib.hid (show r2 = left - n - (sumT nf.sz (xs.take (k + 1)) : Nat) by have a0 := HH.out; have a1 := HP.out; have a2 := HBS.out; omega)
          go_wp2_with fail
          go_roundw
          case rel => exact ⟨k + 1, r2, by go_num, rfl, by omega, HR2.out, by omega, HB2.out⟩
          case measure => simp [intOf]; omega
      · have hlt2 : ¬ (k : Int) < n := by omega
        obtain rfl : k = n := by omega
        have HF := Lib.hid (show r = left - ((k + tt : Nat) : Int) by have a1 := HP.out; rw [List.take_of_length_le (by rw [HL.out]; exact Nat.le_refl _), HTT.out] at a1; omega)
        have HG := Lib.hid (show ((k + tt : Nat) : Int) ≤ left by have := HF.out; omega)
        go_wp2_with fail
        go_ret
        exact ⟨r, rfl, Or.inr ⟨HF.out, HG.out⟩, HB.out⟩
  · have hq : left - n < 0 := by omega
    have HE := Lib.hid (show left < ((n + tt : Nat) : Int) by omega)
    go_enter Try.func80, Try.ntmps80
    go_wp2_with fail
    go_ret
    exact ⟨-1, rfl, Or.inl ⟨rfl, HE.out⟩, Below.refl _ _⟩
set_option maxRecDepth 100000 in
set_option maxHeartbeats 4000000 in
theorem toNumberedFrameS {w : World} {lo hi : Nat} {v : Value} {xs : List Nf} (h : RR rowNf w lo hi v xs) (hs : rowNf.sz xs ≤ 67108864) :
    Calls Try.prog 81 #[v] w (ToPost rowNf xs w) := by
  obtain ⟨i0, hi0, hz0, hz1, hz2⟩ := info_parts infoNf
  obtain ⟨A, n, c, rfl, hl, hnc, hcm⟩ := row_open h
  have hs9 : xs.length + sumT nf.sz xs ≤ 67108864 := hs
  have hmk := fun W => mq.run_makeS (P := Try.prog) 29 85 i0 _ 2 Try.underlying29 hi0 hz0 hz1 n (by rw [hz2]; omega) (by omega) W
  have HQ := Lib.hid h
  have HL := Lib.hid hl
  have HN := Lib.hid (show n ≤ 67108864 by omega)
  have HBD := Lib.hid (show ∀ y ∈ xs, nf.sz y ≤ 67108864 from fun y hy => by have := sumT_mem nf.sz hy; omega)
  clear h hz2 hz1 hz0 hi0 hs hs9 hl
  go_enter Try.func81, Try.ntmps81
  go_wp2_with fail
  go_loopw [4] (fun i wr => ∃ k : Nat, i = .int .i64 k ∧ k ≤ n ∧ Grow nf 85 wr w.heap.size n wr.heap.size (xs.take k) ∧ Below w.heap.size w wr) (fun i _ => n - (intOf i).toNat)
  case atStart => exact ⟨0, rfl, by omega, Grow.start _ _ _ (by have := HN.out; unfold maxLen; omega) (size_madeCells _ _), below_box _ _⟩
  case round =>
    obtain ⟨k, rfl, hk, hg, hb⟩ := hrel
    have HG := Lib.hid hg
    have HB := Lib.hid hb
    have HR := Lib.hid (HQ.out.below hb)
    clear hg hb
    by_cases hlt : k < n
    · obtain ⟨b, off, y, u, hA, hy, hb1, hb2, hr, hu⟩ := row_at HR.out hlt
      obtain ⟨A0, n0, c0, rfl, g0⟩ := nf_r hu
      subst hA
      have HT := Lib.hid (take_snoc hy)
      have HU := Lib.hid (show RR nf wr lo hi (nfV y (.slice A0 n0 c0)) y from hu)
      have kc0 : wr.cell? ⟨b, off + k * 2, none⟩ = some (.int .i64 y.Seq) := hr 0 _ rfl
      have kc1 : wr.cell? ⟨b, off + k * 2 + 1, none⟩ = some (.slice A0 n0 c0) := hr 1 _ rfl
      have hlt2 : (k : Int) < n := by omega
      have HSY := Lib.hid (HBD.out y (List.mem_of_getElem? hy))
      clear hy hu hr g0
      go_wp2_with fail
      (with_reducible refine (toNumberedFrame HU.out HSY.out).mono ?_)
      rintro e w2 hp
      obtain ⟨u2, f2, rfl, ho, hb2⟩ := hp.parts
      clear hp
      obtain ⟨Ae0, ne0, ce0, fe0, rfl, ge0, hf2, hn2⟩ := nf_o ho
      have HO := Lib.hid ho
      have HG2 := Lib.hid (HG.out.below hb2)
      have HB2 := Lib.hid (HB.out.trans (hb2.mono HB.out.size))
      have TH := Lib.hid (show w2.there w.heap.size (k * 2) 2 from HG2.out.there (k := k) hlt)
      have HSZ := Lib.hid szNf
      have HON := Lib.hid (oneNf y.Seq Ae0 ne0 ce0)
      have HSB := Lib.hid HB.out.size
      clear ho hb2 ge0 hf2 hn2 kc0 kc1
      go_wp2_with ((refine mrw.list_storeAt w.heap.size (k * 2) #[.int .i64 y.Seq, .slice Ae0 ne0 ce0] TH.out HSZ.out HON.out ?_ ?_ ?_; (· rfl); (· rfl)))
      go_roundw
      case rel => exact ⟨k + 1, by go_num, by omega, by rw [HT.out]; exact HG2.out.put (by rw [List.length_take, HL.out]; omega) hlt HO.out HON.out rfl rfl (Nat.le_refl _), mrw.below_setCells _ _ _ HB2.out (Nat.le_refl _)⟩
      case measure => simp [intOf]; omega
    · have hlt2 : ¬ (k : Int) < n := by omega
      obtain rfl : k = n := by omega
      have HF := Lib.hid (show xs.take k = xs from List.take_of_length_le (by rw [HL.out]; exact Nat.le_refl _))
      go_wp2_with fail
      go_ret
      obtain ⟨fp, hd⟩ := HG.out.done (by rw [HF.out]; exact HL.out)
      rw [HF.out] at hd
      exact ⟨_, fp, rfl, hd, HB.out⟩
set_option maxRecDepth 100000 in
set_option maxHeartbeats 4000000 in
theorem eqNumberedFrameS {w : World} {lo hi lo2 hi2 : Nat} {v u : Value} {xs : List Nf} (h : RR rowNf w lo hi v xs) (h2 : RR rowNf w lo2 hi2 u xs) :
    Calls Try.prog 77 #[v, u] w (BPost true w) := by
  obtain ⟨A, n, c, rfl, hl, hnc, hcm⟩ := row_open h
  obtain ⟨A2, n2, c2, rfl, hl2, hnc2, hcm2⟩ := row_open h2
  obtain rfl : n = n2 := hl.symm.trans hl2
  have HQ := Lib.hid h
  have HP := Lib.hid h2
  clear h h2
  go_enter Try.func77, Try.ntmps77
  go_wp2_with fail
  go_loopw [5] (fun i wr => ∃ k : Nat, i = .int .i64 k ∧ k ≤ n ∧ Below w.heap.size w wr) (fun i _ => n - (intOf i).toNat)
  case atStart => exact ⟨0, rfl, by omega, Below.refl _ _⟩
  case round =>
    obtain ⟨k, rfl, hk, hb⟩ := hrel
    have HB := Lib.hid hb
    have HR := Lib.hid (HQ.out.below hb)
    have HS := Lib.hid (HP.out.below hb)
    clear hb
    by_cases hlt : k < n
    · obtain ⟨b, off, y, u, hA, hy, hb1, hb2, hr, hu⟩ := row_at HR.out hlt
      obtain ⟨A0, n0, c0, rfl, g0⟩ := nf_r hu
      obtain ⟨bb, offb, yb, ub, hAb, hyb, hb1b, hb2b, hrb, hub⟩ := row_at HS.out hlt
      obtain ⟨Ab0, nb0, cb0, rfl, gb0⟩ := nf_r hub
      obtain rfl : y = yb := Option.some.inj (hy.symm.trans hyb)
      subst hA hAb
      have hlt2 : (k : Int) < n := by omega
      have kc0 : wr.cell? ⟨b, off + k * 2, none⟩ = some (.int .i64 y.Seq) := hr 0 _ rfl
      have kc1 : wr.cell? ⟨b, off + k * 2 + 1, none⟩ = some (.slice A0 n0 c0) := hr 1 _ rfl
      have kcb0 : wr.cell? ⟨bb, offb + k * 2, none⟩ = some (.int .i64 y.Seq) := hrb 0 _ rfl
      have kcb1 : wr.cell? ⟨bb, offb + k * 2 + 1, none⟩ = some (.slice Ab0 nb0 cb0) := hrb 1 _ rfl
      have HU := Lib.hid (show RR nf wr lo hi (nfV y (.slice A0 n0 c0)) y from hu)
      have HUb := Lib.hid (show RR nf wr lo2 hi2 (nfV y (.slice Ab0 nb0 cb0)) y from hub)
      clear hu hub hy hyb hr hrb g0 gb0
      go_upto_region 6 with fail
      have d0 : ∀ m : Af wr, m.w.cell? ⟨b, off + k * 2, none⟩ = some (.int .i64 y.Seq) := fun m => by rw [m.below.cell (World.block_lt_of_cell? _ _ kc0)]; exact kc0
      have d1 : ∀ m : Af wr, m.w.cell? ⟨b, off + k * 2 + 1, none⟩ = some (.slice A0 n0 c0) := fun m => by rw [m.below.cell (World.block_lt_of_cell? _ _ kc1)]; exact kc1
      have db0 : ∀ m : Af wr, m.w.cell? ⟨bb, offb + k * 2, none⟩ = some (.int .i64 y.Seq) := fun m => by rw [m.below.cell (World.block_lt_of_cell? _ _ kcb0)]; exact kcb0
      have db1 : ∀ m : Af wr, m.w.cell? ⟨bb, offb + k * 2 + 1, none⟩ = some (.slice Ab0 nb0 cb0) := fun m => by rw [m.below.cell (World.block_lt_of_cell? _ _ kcb1)]; exact kcb1
      have q0 := Lib.hid (fun m => eqNumberedFrame (HU.out.below m.below) (HUb.out.below m.below) : ∀ m : Af wr, Calls Try.prog 98 #[nfV y (.slice A0 n0 c0), nfV y (.slice Ab0 nb0 cb0)] m.w fun e w' => e = .returned (.bool true) ∧ Below m.w.heap.size m.w w')
      clear kc0 kc1 kcb0 kcb1
      refine region_after (by kernel_rfl) (by kernel_rfl) ?_
      repeat (go_big_quiet_step ((go_at_call 98; with_reducible exact Af.call (q0.out _))))
      refine wpQuiet_nil ?_
      intro _ hw'
      obtain ⟨nq, hw''⟩ := hw'
      subst hw''
      clear d0 d1 db0 db1 q0
      obtain ⟨w5, hw5⟩ : ∃ w5, nq.w = w5 := ⟨_, rfl⟩
      have NB := Lib.hid nq.below
      rw [hw5] at NB
      (try rw [hw5])
      clear hw5
      have HB5 := Lib.hid (HB.out.trans (NB.out.mono HB.out.size))
      clear NB nq HB
      go_wp2_with fail
      go_roundw
      case rel => exact ⟨k + 1, by go_num, by omega, HB5.out⟩
      case measure => simp [intOf]; omega
    · have hlt2 : ¬ (k : Int) < n := by omega
      go_wp2_with fail
      go_ret
      exact ⟨rfl, HB.out⟩
set_option maxRecDepth 100000 in
set_option maxHeartbeats 4000000 in
theorem markNumberedFrameS {w : World} {lo hi : Nat} {fp : List Nat} {v : Value} {xs : List Nf} (q : Int) (h : OO rowNf w lo hi fp v xs) (hq : 0 ≤ q ∧ q + (rowNf.tot xs : Nat) ≤ 1099511627776) (hs : rowNf.sz xs ≤ 67108864) :
    Calls Try.prog 78 #[v, .int .i64 q] w (MkPost rowNf (rowNf.mkx q xs) (q + (rowNf.tot xs : Nat)) lo hi fp v w) := by
  obtain ⟨A, n, c, rfl, hl, hnc, hcm⟩ := row_open h.rd
  have HL := Lib.hid hl
  have hq9 : 0 ≤ q ∧ q + (sumT nf.tot xs : Nat) ≤ 1099511627776 := hq
  have HQ := Lib.hid hq9
  have hs9 : xs.length + sumT nf.sz xs ≤ 67108864 := hs
  have HBD := Lib.hid (show ∀ y ∈ xs, nf.sz y ≤ 67108864 from fun y hy => by have := sumT_mem nf.sz hy; omega)
  have KH := Lib.hid h.hi_
  have H0 := Lib.hid h
  show Calls Try.prog 78 #[.slice A n c, .int .i64 q] w (MkPost rowNf (mks nf.mkx nf.tot q xs) (q + (sumT nf.tot xs : Nat)) lo hi fp (.slice A n c) w)
  clear h hq hq9 hs hs9 hl
  go_enter Try.func78, Try.ntmps78
  go_wp2_with fail
  go_loopw [1, 5] (fun q2 i wr => ∃ j : Nat, i = .int .i64 j ∧ q2 = .int .i64 (q + (sumT nf.tot (xs.take j) : Nat)) ∧ j ≤ n ∧ OO rowNf wr lo hi fp (.slice A n c) (mks nf.mkx nf.tot q (xs.take j) ++ xs.drop j) ∧ KS fp w wr) (fun _ i _ => n - (intOf i).toNat)
  case atStart => exact ⟨0, rfl, by simp [sumT], by omega, by simpa [mks] using H0.out, KS.refl _ _⟩
  clear H0
  case round =>
    obtain ⟨j, rfl, rfl, hj, ho, hk⟩ := hrel
    obtain ⟨t, hq⟩ : ∃ t, q + (sumT nf.tot (xs.take j) : Nat) = t := ⟨_, rfl⟩
    have HTT := Lib.hid hq
    have HO := Lib.hid ho
    have K0 := Lib.hid hk
    have hb1 : 0 ≤ t ∧ t ≤ 1099511627776 := by have a1 := HQ.out; have a2 := sumT_take nf.tot xs j; omega
    rw [hq]
    clear ho hk hq
    by_cases hlt : j < n
    · have hlt2 : (j : Int) < n := by omega
      obtain ⟨x, hx⟩ : ∃ x, xs[j]? = some x := ⟨_, List.getElem?_eq_getElem (by rw [HL.out]; exact hlt)⟩
      have HX := Lib.hid hx
      have hx2 := at_mid (mk := nf.mkx) (tot := nf.tot) (q := q) hx
      have HSX := Lib.hid (HBD.out x (List.mem_of_getElem? hx))
      have hend : t + (nf.tot x : Nat) ≤ 1099511627776 := by have a1 := HQ.out; have a2 := sumT_take nf.tot xs (j + 1); rw [take_snoc hx, sumT_snoc] at a2; have a3 := HTT.out; omega
      have HND := Lib.hid hend
      obtain ⟨g, n1, cc1, l, r, u, f, e1, hlj, hsp, hole, hox, hfp, hnd, husz, huone⟩ := row_hole HO.out hx2
      injection e1 with e1 e2 e3
      subst e1 e2 e3
      obtain ⟨A0, n0, c0, f0, rfl, g0, hff, hnf⟩ := nf_o hox
      have HO0 := Lib.hid (show Hole nf 85 wr g n c l r [.int .i64 x.Seq, .slice A0 n0 c0] from hole)
      have HFP := Lib.hid hfp
      have HNF := Lib.hid hnd
      have AP := Lib.hid (hole_apart hfp hnd)
      have HIN := Lib.hid hox.inn
      have HALL := Lib.hid HO.out.inn
      have HHI := Lib.hid HO.out.hi_
      have HLJ := Lib.hid hlj
      have HSP := Lib.hid hsp
      have N0_0 := Lib.hid g0
      have HFF := Lib.hid hff
      have HNN := Lib.hid hnf
      clear hole hox hx hx2 hfp hnd husz huone hlj hsp HO hff hnf g0
      have kc0 : wr.cell? ⟨g, j * 2, none⟩ = some (.int .i64 x.Seq) := HO0.out.cell HLJ.out (i := 0) rfl
      have kc1 : wr.cell? ⟨g, j * 2 + 1, none⟩ = some (.slice A0 n0 c0) := HO0.out.cell HLJ.out (i := 1) rfl
      have fz0 : wr.frozen? ⟨g, j * 2, none⟩ = false := HO0.out.free _
      have mt1 : IntKind.i64.wrap (t + 1) = t + 1 := IntWalk.i64_in _ (by omega)
      go_wp2_with fail
      clear kc0 kc1 fz0 mt1
      obtain ⟨wa0, hW⟩ : ∃ wy, wr.setCell ⟨g, j * 2, none⟩ (.int .i64 t) = wy := ⟨_, rfl⟩
      rw [hW]
      have HO1 := Lib.hid (show Hole nf 85 wa0 g n c l r [.int .i64 t, .slice A0 n0 c0] by rw [← hW]; exact (HO0.out.set HLJ.out (i := 0) (by show 0 < 2; omega) (.int .i64 t)))
      have hks : KS [g] wr wa0 := by rw [← hW]; exact (KS.refl [g] wr).trans (ks_set (List.mem_singleton.2 rfl) _ _)
      have K1 := Lib.hid (K0.out.trans (ks_more hks (fun b hb => by rw [List.mem_singleton.1 hb]; exact AP.out.2.2.2.1)))
      have N0_1 := Lib.hid (N0_0.out.ks hks (fun b hb hg => AP.out.1 (by have e9 := List.mem_singleton.1 hg; rw [← e9]; rw [HFF.out]; simp [hb])))
      clear hW hks HO0 K0 N0_0
      have HK0 := Lib.hid (show 0 ≤ (t + 1) ∧ (t + 1) + (bytes.tot x.Body : Nat) ≤ 1099511627776 by have a1 := HND.out; have a2 : nf.tot x = 1 + bytes.tot x.Body := rfl; omega)
      have HZ0 := Lib.hid (show bytes.sz x.Body ≤ 67108864 by have a1 := HSX.out; have a2 : nf.sz x = bytes.sz x.Body := rfl; omega)
      (with_reducible refine (markByteS (t + 1) N0_1.out HK0.out HZ0.out).mono ?_)
      rintro e wb1 hp
      obtain ⟨rfl, ho, hk⟩ := hp.parts
      have HO2 := Lib.hid (HO1.out.ks hk (fun hb => AP.out.1 (by rw [HFF.out]; simp [hb])) (fun e he b hb hb2 => AP.out.2.1 e he b hb (by rw [HFF.out]; simp [hb2])))
      have K2 := Lib.hid (K1.out.trans (ks_more hk (fun b hb => AP.out.2.2.1 b (by rw [HFF.out]; simp [hb]))))
      have N0_2 := Lib.hid ho
      clear hp ho hk HO1 K1 N0_1
      obtain ⟨t0, ht0⟩ : ∃ y : Int, (t + 1) + (bytes.tot x.Body : Nat) = y := ⟨_, rfl⟩
      have Ht0 := Lib.hid ht0
      have hbt0 : 0 ≤ t0 ∧ t0 ≤ 1099511627776 := by have a1 := HK0.out; omega
      rw [ht0]
      clear ht0
      have kc0 : wb1.cell? ⟨g, j * 2, none⟩ = some (.int .i64 t) := HO2.out.cell HLJ.out (i := 0) rfl
      have kc1 : wb1.cell? ⟨g, j * 2 + 1, none⟩ = some (.slice A0 n0 c0) := HO2.out.cell HLJ.out (i := 1) rfl
      go_wp2_with fail
      clear kc0 kc1
      have HX1 := Lib.hid (take_snoc HX.out)
      have HEND := Lib.hid (show t0 = q + (sumT nf.tot (xs.take (j + 1)) : Nat) by rw [HX1.out, sumT_snoc]; have a1 := HTT.out; have a2 : nf.tot x = 1 + bytes.tot x.Body := rfl; have b0 := Ht0.out; omega)
      have HCL := Lib.hid (show OO rowNf wb1 lo hi fp (.slice (some ⟨g, 0, none⟩) n c) (l.map (·.x) ++ nf.mkx t x :: r.map (·.x)) by
          have hm : nf.mkx t x = (⟨t, bytes.mkx (t + 1) x.Body⟩ : Nf) := by (try rw [← Ht0.out]); rfl
          rw [hm]
          have ho := nf_mk (x := (⟨t, bytes.mkx (t + 1) x.Body⟩ : Nf)) N0_2.out (by rw [← HFF.out]; exact HNN.out)
          rw [← HFF.out] at ho
          exact Hole.close (u := nfV (⟨t, bytes.mkx (t + 1) x.Body⟩ : Nf) (.slice A0 n0 c0)) HO2.out ho.1 (oneNf _ _ _ _) HFP.out HNF.out HALL.out (by have a1 := HHI.out; have a2 := K2.out.size; have a3 := KH.out; omega))
      go_roundw
      case rel => exact ⟨j + 1, by go_num, by rw [HEND.out], by omega, by rw [← round_mk HX.out (show (l.map (·.x)).length = j by rw [List.length_map]; exact HLJ.out) HSP.out, HTT.out]; exact HCL.out, K2.out⟩
      case measure => simp [intOf]; omega
    · have hlt2 : ¬ (j : Int) < n := by omega
      obtain rfl : j = n := by omega
      have HF := Lib.hid (show xs.take j = xs from List.take_of_length_le (by rw [HL.out]; exact Nat.le_refl _))
      have HG := Lib.hid (show t = q + (sumT nf.tot xs : Nat) by rw [← HTT.out, HF.out])
      have HE := Lib.hid (show OO rowNf wr lo hi fp (.slice A j c) (mks nf.mkx nf.tot q xs) by have hh := HO.out; rw [HF.out, List.drop_of_length_le (by rw [HL.out]; exact Nat.le_refl _), List.append_nil] at hh; exact hh)
      clear HO
      go_wp2_with fail
      go_ret
      exact ⟨by rw [← HG.out]; rfl, HE.out, K0.out⟩
set_option maxRecDepth 100000 in
set_option maxHeartbeats 4000000 in
theorem heldNumberedFrameS {w : World} {lo hi : Nat} {v : Value} {xs : List Nf} (q : Int) (h : RR rowNf w lo hi v (rowNf.mkx q xs)) (hq : 0 ≤ q ∧ q + (rowNf.tot xs : Nat) ≤ 1099511627776) (hs : rowNf.sz xs ≤ 67108864) :
    Calls Try.prog 79 #[v, .int .i64 q] w (NPost (q + (rowNf.tot xs : Nat)) w) := by
  obtain ⟨A, n, c, rfl, hl, hnc, hcm⟩ := row_open h
  have hl2 : xs.length = n := by rw [← hl]; exact (mks_len nf.mkx nf.tot xs q).symm
  have HL := Lib.hid hl2
  have hq9 : 0 ≤ q ∧ q + (sumT nf.tot xs : Nat) ≤ 1099511627776 := hq
  have HQ := Lib.hid hq9
  have hs9 : xs.length + sumT nf.sz xs ≤ 67108864 := hs
  have HBD := Lib.hid (show ∀ y ∈ xs, nf.sz y ≤ 67108864 from fun y hy => by have := sumT_mem nf.sz hy; omega)
  have H0 := Lib.hid h
  show Calls Try.prog 79 #[.slice A n c, .int .i64 q] w (NPost (q + (sumT nf.tot xs : Nat)) w)
  clear h hq hq9 hs hs9 hl hl2
  go_enter Try.func79, Try.ntmps79
  go_wp2_with fail
  go_loopw [1, 5] (fun q2 i wr => ∃ j : Nat, i = .int .i64 j ∧ q2 = .int .i64 (q + (sumT nf.tot (xs.take j) : Nat)) ∧ j ≤ n ∧ Below w.heap.size w wr) (fun _ i _ => n - (intOf i).toNat)
  case atStart => exact ⟨0, rfl, by simp [sumT], by omega, Below.refl _ _⟩
  case round =>
    obtain ⟨j, rfl, rfl, hj, hb⟩ := hrel
    obtain ⟨t, hq⟩ : ∃ t, q + (sumT nf.tot (xs.take j) : Nat) = t := ⟨_, rfl⟩
    have HTT := Lib.hid hq
    have HB := Lib.hid hb
    have HR := Lib.hid (H0.out.below hb)
    have hb1 : 0 ≤ t ∧ t ≤ 1099511627776 := by have a1 := HQ.out; have a2 := sumT_take nf.tot xs j; omega
    rw [hq]
    clear hb hq
    by_cases hlt : j < n
    · have hlt2 : (j : Int) < n := by omega
      obtain ⟨x, hx⟩ : ∃ x, xs[j]? = some x := ⟨_, List.getElem?_eq_getElem (by rw [HL.out]; exact hlt)⟩
      have HX := Lib.hid hx
      have HSX := Lib.hid (HBD.out x (List.mem_of_getElem? hx))
      have hend : t + (nf.tot x : Nat) ≤ 1099511627776 := by have a1 := HQ.out; have a2 := sumT_take nf.tot xs (j + 1); rw [take_snoc hx, sumT_snoc] at a2; have a3 := HTT.out; omega
      have HND := Lib.hid hend
      obtain ⟨b, off, y, u, hA, hy, hb1_, hb2_, hr, hu⟩ := row_at HR.out hlt
      obtain rfl : y = nf.mkx t x := by have hy : (mks nf.mkx nf.tot q xs)[j]? = some y := hy; rw [mks_at nf.mkx nf.tot hx, HTT.out] at hy; exact (Option.some.inj hy).symm
      obtain ⟨A0, n0, c0, rfl, g0⟩ := nf_r hu
      subst hA
      have kc0 : wr.cell? ⟨b, off + j * 2, none⟩ = some (.int .i64 t) := hr 0 _ rfl
      have kc1 : wr.cell? ⟨b, off + j * 2 + 1, none⟩ = some (.slice A0 n0 c0) := hr 1 _ rfl
      have P0 := Lib.hid g0
      obtain ⟨t0, ht0⟩ : ∃ y : Int, t + 1 + (bytes.tot x.Body : Nat) = y := ⟨_, rfl⟩
      have Ht0 := Lib.hid ht0
      have HK0 := Lib.hid (show 0 ≤ t + 1 ∧ t + 1 + (bytes.tot x.Body : Nat) ≤ 1099511627776 by have a1 := HND.out; have a2 : nf.tot x = 1 + bytes.tot x.Body := rfl; omega)
      have HZ0 := Lib.hid (show bytes.sz x.Body ≤ 67108864 by have a1 := HSX.out; have a2 : nf.sz x = bytes.sz x.Body := rfl; omega)
      have hbt0 : 0 ≤ t0 ∧ t0 ≤ 1099511627776 := by have a1 := HK0.out; omega
      clear ht0
      clear hu hy hr g0 hx
      have mt1 : IntKind.i64.wrap (t + 1) = t + 1 := IntWalk.i64_in _ (by omega)
      go_wp2_with fail
      (with_reducible refine (heldByteS (t + 1) P0.out HK0.out HZ0.out).mono ?_)
      rw [Ht0.out]
      rintro e wh0 ⟨rfl, hb⟩
      replace kc0 := (hb.cell (World.block_lt_of_cell? _ _ kc0)).trans kc0
      replace kc1 := (hb.cell (World.block_lt_of_cell? _ _ kc1)).trans kc1
      have P0 := Lib.hid (P0.out.below hb)
      have HB0 := Lib.hid (HB.out.trans (hb.mono HB.out.size))
      clear hb HB mt1
      have hng1 : ¬ t0 < 0 := by omega
      go_wp2_with fail
      have HEND := Lib.hid (show t0 = q + (sumT nf.tot (xs.take (j + 1)) : Nat) by rw [take_snoc HX.out, sumT_snoc]; have a1 := HTT.out; have a2 : nf.tot x = 1 + bytes.tot x.Body := rfl; have b0 := Ht0.out; omega)
      go_roundw
      case rel => exact ⟨j + 1, by go_num, by rw [HEND.out], by omega, HB0.out⟩
      case measure => simp [intOf]; omega
    · have hlt2 : ¬ (j : Int) < n := by omega
      obtain rfl : j = n := by omega
      have HF := Lib.hid (show xs.take j = xs from List.take_of_length_le (by rw [HL.out]; exact Nat.le_refl _))
      have HG := Lib.hid (show t = q + (sumT nf.tot xs : Nat) by rw [← HTT.out, HF.out])
      go_wp2_with fail
      go_ret
      exact ⟨by rw [← HG.out]; rfl, HB.out⟩
theorem infoRob : (Try.prog.info? 31).map (fun i => (i.zero, i.size, i.bytes)) = some (some (.agg #[.int .i64 0, .slice none 0 0]), 2, 32) := by kernel_rfl
theorem szLRob : (Try.prog.info? 55).map (·.size) = some 2 := by kernel_rfl
set_option maxRecDepth 100000 in
set_option maxHeartbeats 4000000 in
theorem szReorderBuffer {w : World} {lo hi : Nat} {v : Value} {x : Rob} (left : Int) (hl : 0 ≤ left ∧ left ≤ 1048576) (h : RR rob w lo hi v x) :
    Calls Try.prog 35 #[v, .int .i64 left] w (ZPost left (rob.sz x) w) := by
  have LH := Lib.hid h.hi_
  obtain ⟨A0, n0, c0, rfl, g0⟩ := rob_r h
  show Calls Try.prog 35 #[robV x (.slice A0 n0 c0), .int .i64 left] w (ZPost left (rowNf.sz x.Pending) w)
  have P0W := Lib.hid g0
  have LL0 := Lib.hid hl
  clear h hl g0
  obtain ⟨s0, hs0⟩ : ∃ s, rowNf.sz x.Pending = s := ⟨_, rfl⟩
  rw [hs0]
  have HS0 := Lib.hid hs0
  clear hs0
  go_enter Try.func35, Try.ntmps35
  go_wp2_with fail
  obtain ⟨w0, hW⟩ : ∃ w0, w.alloc (.cells #[.int .i64 x.Start, .slice A0 n0 c0] 55) = w0 := ⟨_, rfl⟩
  rw [hW]
  have B0 := Lib.hid (show Below w.heap.size w w0 by rw [← hW]; exact (Below.refl _ _).alloc (by simp <;> omega) _)
  have X0 := Lib.hid (show Bx 55 w0 (w.heap.size) #[.int .i64 x.Start, .slice A0 n0 c0] by
      rw [← hW]
      have hh := Bx.made 55 w #[.int .i64 x.Start, .slice A0 n0 c0]
      exact hh)
  have P00 := Lib.hid (show RR rowNf w0 lo hi (.slice A0 n0 c0) x.Pending by rw [← hW]; exact (P0W.out.below (below_box _ _)))
  clear hW
  have LTX := Lib.hid X0.out.lt
  (with_reducible refine (szNumberedFrameS left LL0.out P00.out).mono ?_)
  rintro e w1 hp
  obtain ⟨r0, rfl, hor, hb⟩ := hp.parts
  rw [HS0.out] at hor
  clear hp
  have SS1 := Lib.hid hb.size
  have B1 := Lib.hid (B0.out.trans (hb.mono B0.out.size))
  have X1 := Lib.hid (X0.out.below hb)
  have P01 := Lib.hid (P00.out.below hb)
  clear hb B0 X0 P00
  rcases hor with ⟨hm, hlo⟩ | ⟨hr, hle⟩
  · subst hm
    have HLO := Lib.hid hlo
    clear hlo
    go_wp2_with fail
    go_ret
    exact ⟨-1, rfl, .inl ⟨rfl, by  have q9 := HLO.out; omega⟩, B1.out⟩
  · have HR0 := Lib.hid hr
    have HE0 := Lib.hid hle
    have hng : ¬ r0 < 0 := by omega
    have LL1 := Lib.hid (show 0 ≤ r0 ∧ r0 ≤ 1048576 by have q9 := LL0.out; omega)
    clear hr hle
    have cX0 : w1.cell? ⟨w.heap.size, 0, none⟩ = some (.int .i64 x.Start) := X1.out.cell 0
    have cX1 : w1.cell? ⟨w.heap.size, 1, none⟩ = some (.slice A0 n0 c0) := X1.out.cell 1
    go_wp2_with fail
    clear cX0 cX1
    go_ret
    exact ⟨r0, rfl, .inr ⟨by  have q0 := HR0.out; have p0 := HE0.out; omega, by  have q0 := HR0.out; have p0 := HE0.out; omega⟩, B1.out⟩
set_option maxRecDepth 100000 in
set_option maxHeartbeats 4000000 in
theorem toReorderBuffer {w : World} {lo hi : Nat} {v : Value} {x : Rob} (h : RR rob w lo hi v x) (hs : rob.sz x ≤ 67108864) :
    Calls Try.prog 36 #[v] w (ToPost rob x w) := by
  have LH := Lib.hid h.hi_
  obtain ⟨A0, n0, c0, rfl, g0⟩ := rob_r h
  have P0W := Lib.hid g0
  have hs9 : rowNf.sz x.Pending ≤ 67108864 := hs
  have HS0 := Lib.hid (show rowNf.sz x.Pending ≤ 67108864 by omega)
  clear hs9
  clear h hs g0
  go_enter Try.func36, Try.ntmps36
  go_upto_region 2 with fail
  obtain ⟨w0, hW⟩ : ∃ w0, ((w.alloc (.cells #[.int .i64 x.Start, .slice A0 n0 c0] 55)).alloc (.cells #[.int .i64 0, .slice none 0 0] 31)).alloc (.cells #[.int .i64 0, .slice none 0 0] 31) = w0 := ⟨_, rfl⟩
  rw [hW]
  have B0 := Lib.hid (show Below w.heap.size w w0 by rw [← hW]; exact (((Below.refl _ _).alloc (by simp <;> omega) _).alloc (by simp <;> omega) _).alloc (by simp <;> omega) _)
  have X0 := Lib.hid (show Bx 55 w0 (w.heap.size) #[.int .i64 x.Start, .slice A0 n0 c0] by
      rw [← hW]
      have hh := Bx.made 55 w #[.int .i64 x.Start, .slice A0 n0 c0]
      exact ((hh.below (below_box _ _)).below (below_box _ _)))
  have Z0 := Lib.hid (show Bx 31 w0 (w.heap.size + 1) #[.int .i64 0, .slice none 0 0] by
      rw [← hW]
      have hh : Bx 31 ((w.alloc (.cells #[.int .i64 x.Start, .slice A0 n0 c0] 55)).alloc (.cells #[.int .i64 0, .slice none 0 0] 31)) (w.heap.size + 1) #[.int .i64 0, .slice none 0 0] := by have hh := Bx.made 31 (w.alloc (.cells #[.int .i64 x.Start, .slice A0 n0 c0] 55)) #[.int .i64 0, .slice none 0 0]; simpa using hh
      exact (hh.below (below_box _ _)))
  have O0 := Lib.hid (show Bx 31 w0 (w.heap.size + 1 + 1) #[.int .i64 0, .slice none 0 0] by
      rw [← hW]
      have hh : Bx 31 (((w.alloc (.cells #[.int .i64 x.Start, .slice A0 n0 c0] 55)).alloc (.cells #[.int .i64 0, .slice none 0 0] 31)).alloc (.cells #[.int .i64 0, .slice none 0 0] 31)) (w.heap.size + 1 + 1) #[.int .i64 0, .slice none 0 0] := by have hh := Bx.made 31 ((w.alloc (.cells #[.int .i64 x.Start, .slice A0 n0 c0] 55)).alloc (.cells #[.int .i64 0, .slice none 0 0] 31)) #[.int .i64 0, .slice none 0 0]; simpa using hh
      exact hh)
  have P00 := Lib.hid (show RR rowNf w0 lo hi (.slice A0 n0 c0) x.Pending by rw [← hW]; exact (((P0W.out.below (below_box _ _)).below (below_box _ _)).below (below_box _ _)))
  clear hW
  have LTX := Lib.hid X0.out.lt
  have LTZ := Lib.hid Z0.out.lt
  have LTO := Lib.hid O0.out.lt
  have cX0 : w0.cell? ⟨w.heap.size, 0, none⟩ = some (.int .i64 x.Start) := X0.out.cell 0
  have cX1 : w0.cell? ⟨w.heap.size, 1, none⟩ = some (.slice A0 n0 c0) := X0.out.cell 1
  have cO0 : w0.cell? ⟨w.heap.size + 1 + 1, 0, none⟩ = some (.int .i64 0) := O0.out.cell 0
  have cO1 : w0.cell? ⟨w.heap.size + 1 + 1, 1, none⟩ = some (.slice none 0 0) := O0.out.cell 1
  have fO0 : w0.frozen? ⟨w.heap.size + 1 + 1, 0, none⟩ = false := O0.out.free 0
  have fO1 : w0.frozen? ⟨w.heap.size + 1 + 1, 1, none⟩ = false := O0.out.free 1
  go_wp2_with fail
  clear cX0 cX1 cO0 cO1 fO0 fO1
  have hWW : (w0.setCell ⟨w.heap.size + 1 + 1, 0, none⟩ (.int .i64 x.Start)) = (w0.setCell ⟨w.heap.size + 1 + 1, 0, none⟩ (.int .i64 x.Start)) := rfl
  obtain ⟨w1, hW⟩ : ∃ wy, (w0.setCell ⟨w.heap.size + 1 + 1, 0, none⟩ (.int .i64 x.Start)) = wy := ⟨_, rfl⟩
  rw [hW]
  clear hWW
  have B1 := Lib.hid (show Below w.heap.size w w1 by rw [← hW]; exact (B0.out.setCell (p := ⟨w.heap.size + 1 + 1, 0, none⟩) (by have hs0 := LTX.out; have hs1 := LTZ.out; have hs2 := LTO.out; have hs3 := LH.out; first | omega | (simp <;> omega)) _))
  have X1 := Lib.hid (show Bx 55 w1 (w.heap.size) #[.int .i64 x.Start, .slice A0 n0 c0] by rw [← hW]; exact (X0.out.other (by have hs0 := LTX.out; have hs1 := LTZ.out; have hs2 := LTO.out; have hs3 := LH.out; first | omega | (simp <;> omega)) _ _))
  have Z1 := Lib.hid (show Bx 31 w1 (w.heap.size + 1) #[.int .i64 0, .slice none 0 0] by rw [← hW]; exact (Z0.out.other (by have hs0 := LTX.out; have hs1 := LTZ.out; have hs2 := LTO.out; have hs3 := LH.out; first | omega | (simp <;> omega)) _ _))
  have O1 := Lib.hid (show Bx 31 w1 (w.heap.size + 1 + 1) #[.int .i64 x.Start, .slice none 0 0] by rw [← hW]; exact (O0.out.set 0 _))
  have P01 := Lib.hid (show RR rowNf w1 lo hi (.slice A0 n0 c0) x.Pending by rw [← hW]; exact (P00.out.same (by simp [World.setCell]) fun b h1 h2 => by rw [Below.heap_setCell _ _ _ _ (by have hs0 := LTX.out; have hs1 := LTZ.out; have hs2 := LTO.out; have hs3 := LH.out; first | omega | (simp <;> omega))]))
  clear hW B0 X0 Z0 O0 P00
  have SP1 := Lib.hid O1.out.lt
  (with_reducible refine (toNumberedFrameS P01.out HS0.out).mono ?_)
  rintro e w2 hp
  obtain ⟨u0, f0, rfl, ho, hb⟩ := hp.parts
  obtain ⟨Ab0, nb0, cb0, rfl⟩ := rowNf_slo ho.1
  clear hp
  have SS2 := Lib.hid hb.size
  have B2 := Lib.hid (B1.out.trans (hb.mono B1.out.size))
  have X2 := Lib.hid (X1.out.below hb)
  have Z2 := Lib.hid (Z1.out.below hb)
  have O2 := Lib.hid (O1.out.below hb)
  have P02 := Lib.hid (P01.out.below hb)
  clear hb B1 X1 Z1 O1 P01
  have N02 := Lib.hid ho
  clear ho
  have cX0 : w2.cell? ⟨w.heap.size, 0, none⟩ = some (.int .i64 x.Start) := X2.out.cell 0
  have cX1 : w2.cell? ⟨w.heap.size, 1, none⟩ = some (.slice A0 n0 c0) := X2.out.cell 1
  have cO0 : w2.cell? ⟨w.heap.size + 1 + 1, 0, none⟩ = some (.int .i64 x.Start) := O2.out.cell 0
  have cO1 : w2.cell? ⟨w.heap.size + 1 + 1, 1, none⟩ = some (.slice none 0 0) := O2.out.cell 1
  have fO0 : w2.frozen? ⟨w.heap.size + 1 + 1, 0, none⟩ = false := O2.out.free 0
  have fO1 : w2.frozen? ⟨w.heap.size + 1 + 1, 1, none⟩ = false := O2.out.free 1
  go_upto_region 4 with fail
  clear cX0 cX1 cO0 cO1 fO0 fO1
  have hWW : (w2.setCell ⟨w.heap.size + 1 + 1, 1, none⟩ (.slice Ab0 nb0 cb0)) = (w2.setCell ⟨w.heap.size + 1 + 1, 1, none⟩ (.slice Ab0 nb0 cb0)) := rfl
  obtain ⟨w3, hW⟩ : ∃ wy, (w2.setCell ⟨w.heap.size + 1 + 1, 1, none⟩ (.slice Ab0 nb0 cb0)) = wy := ⟨_, rfl⟩
  rw [hW]
  clear hWW
  have B3 := Lib.hid (show Below w.heap.size w w3 by rw [← hW]; exact (B2.out.setCell (p := ⟨w.heap.size + 1 + 1, 1, none⟩) (by have hs0 := LTX.out; have hs1 := LTZ.out; have hs2 := LTO.out; have hs3 := LH.out; have hs4 := SP1.out; have hs5 := SS2.out; first | omega | (simp <;> omega)) _))
  have X3 := Lib.hid (show Bx 55 w3 (w.heap.size) #[.int .i64 x.Start, .slice A0 n0 c0] by rw [← hW]; exact (X2.out.other (by have hs0 := LTX.out; have hs1 := LTZ.out; have hs2 := LTO.out; have hs3 := LH.out; have hs4 := SP1.out; have hs5 := SS2.out; first | omega | (simp <;> omega)) _ _))
  have Z3 := Lib.hid (show Bx 31 w3 (w.heap.size + 1) #[.int .i64 0, .slice none 0 0] by rw [← hW]; exact (Z2.out.other (by have hs0 := LTX.out; have hs1 := LTZ.out; have hs2 := LTO.out; have hs3 := LH.out; have hs4 := SP1.out; have hs5 := SS2.out; first | omega | (simp <;> omega)) _ _))
  have O3 := Lib.hid (show Bx 31 w3 (w.heap.size + 1 + 1) #[.int .i64 x.Start, .slice Ab0 nb0 cb0] by rw [← hW]; exact (O2.out.set 1 _))
  have P03 := Lib.hid (show RR rowNf w3 lo hi (.slice A0 n0 c0) x.Pending by rw [← hW]; exact (P02.out.same (by simp [World.setCell]) fun b h1 h2 => by rw [Below.heap_setCell _ _ _ _ (by have hs0 := LTX.out; have hs1 := LTZ.out; have hs2 := LTO.out; have hs3 := LH.out; have hs4 := SP1.out; have hs5 := SS2.out; first | omega | (simp <;> omega))]))
  have N03 := Lib.hid (show OO rowNf w3 w1.heap.size w2.heap.size f0 (.slice Ab0 nb0 cb0) x.Pending by rw [← hW]; exact (N02.out.same (by simp [World.setCell]) fun b h1 h2 => by rw [Below.heap_setCell _ _ _ _ (by have hs0 := LTX.out; have hs1 := LTZ.out; have hs2 := LTO.out; have hs3 := LH.out; have hs4 := SP1.out; have hs5 := SS2.out; first | omega | (simp <;> omega))]))
  clear hW B2 X2 Z2 O2 P02 N02
  go_wp2_with (first | (refine stw.list_load rfl 31 _ rfl (w.heap.size + 1 + 1) rfl 31 _ O3.out Try.underlying31 rfl szRob ?_) | (refine stw.list_store rfl 31 _ _ rfl (w.heap.size + 1) #[.int .i64 x.Start, .slice Ab0 nb0 cb0] rfl rfl 31 _ Z3.out rfl szRob (oneRob _ _ _ _) ?_; intro wz4 hz))
  have B4 := Lib.hid (hz.on B3.out (by have hs0 := LTX.out; have hs1 := LTZ.out; have hs2 := LTO.out; have hs3 := LH.out; have hs4 := SP1.out; have hs5 := SS2.out; first | omega | (simp <;> omega)))
  have X4 := Lib.hid (hz.keep X3.out (by have hs0 := LTX.out; have hs1 := LTZ.out; have hs2 := LTO.out; have hs3 := LH.out; have hs4 := SP1.out; have hs5 := SS2.out; first | omega | (simp <;> omega)))
  have Z4 := Lib.hid (hz.box)
  have O4 := Lib.hid (hz.keep O3.out (by have hs0 := LTX.out; have hs1 := LTZ.out; have hs2 := LTO.out; have hs3 := LH.out; have hs4 := SP1.out; have hs5 := SS2.out; first | omega | (simp <;> omega)))
  have P04 := Lib.hid (P03.out.same hz.below.size fun b h1 h2 => hz.other b (by have hs0 := LTX.out; have hs1 := LTZ.out; have hs2 := LTO.out; have hs3 := LH.out; have hs4 := SP1.out; have hs5 := SS2.out; first | omega | (simp <;> omega)))
  have N04 := Lib.hid (N03.out.same hz.below.size fun b h1 h2 => hz.other b (by have hs0 := LTX.out; have hs1 := LTZ.out; have hs2 := LTO.out; have hs3 := LH.out; have hs4 := SP1.out; have hs5 := SS2.out; first | omega | (simp <;> omega)))
  clear hz B3 X3 Z3 O3 P03 N03
  (try simp only [Exit.inBlock, Exit.then])
  refine bodyPost_ret (v := .agg #[.int .i64 x.Start, .slice Ab0 nb0 cb0]) ?_ rfl ?_
  · rw [results_cell1 rfl]
    exact stw.back Z4.out Try.underlying31 rfl szRob
  · exact ⟨_, _, rfl, rob_mk (N04.out.wide (by have hs0 := LTX.out; have hs1 := LTZ.out; have hs2 := LTO.out; have hs3 := LH.out; have hs4 := SP1.out; have hs5 := SS2.out;  first | omega | (simp <;> omega))) (rowNf.nd N04.out.1), B4.out⟩
set_option maxRecDepth 100000 in
set_option maxHeartbeats 4000000 in
theorem eqReorderBuffer {w : World} {lo hi lo2 hi2 : Nat} {v u : Value} {x : Rob} (h : RR rob w lo hi v x) (h2 : RR rob w lo2 hi2 u x) :
    Calls Try.prog 32 #[v, u] w (BPost true w) := by
  have LH := Lib.hid h.hi_
  have LH2 := Lib.hid h2.hi_
  obtain ⟨A0, n0, c0, rfl, g0⟩ := rob_r h
  obtain ⟨Ab0, nb0, cb0, rfl, gb0⟩ := rob_r h2
  have P0W := Lib.hid g0
  have Q0W := Lib.hid gb0
  clear h h2 g0 gb0
  go_enter Try.func32, Try.ntmps32
  go_wp2_with fail
  obtain ⟨w0, hW⟩ : ∃ w0, (w.alloc (.cells #[.int .i64 x.Start, .slice A0 n0 c0] 31)).alloc (.cells #[.int .i64 x.Start, .slice Ab0 nb0 cb0] 31) = w0 := ⟨_, rfl⟩
  rw [hW]
  have B0 := Lib.hid (show Below w.heap.size w w0 by rw [← hW]; exact ((Below.refl _ _).alloc (by simp <;> omega) _).alloc (by simp <;> omega) _)
  have X0 := Lib.hid (show Bx 31 w0 (w.heap.size) #[.int .i64 x.Start, .slice A0 n0 c0] by
      rw [← hW]
      have hh := Bx.made 31 w #[.int .i64 x.Start, .slice A0 n0 c0]
      exact (hh.below (below_box _ _)))
  have Y0 := Lib.hid (show Bx 31 w0 (w.heap.size + 1) #[.int .i64 x.Start, .slice Ab0 nb0 cb0] by
      rw [← hW]
      have hh : Bx 31 ((w.alloc (.cells #[.int .i64 x.Start, .slice A0 n0 c0] 31)).alloc (.cells #[.int .i64 x.Start, .slice Ab0 nb0 cb0] 31)) (w.heap.size + 1) #[.int .i64 x.Start, .slice Ab0 nb0 cb0] := by have hh := Bx.made 31 (w.alloc (.cells #[.int .i64 x.Start, .slice A0 n0 c0] 31)) #[.int .i64 x.Start, .slice Ab0 nb0 cb0]; simpa using hh
      exact hh)
  have P00 := Lib.hid (show RR rowNf w0 lo hi (.slice A0 n0 c0) x.Pending by rw [← hW]; exact ((P0W.out.below (below_box _ _)).below (below_box _ _)))
  have Q00 := Lib.hid (show RR rowNf w0 lo2 hi2 (.slice Ab0 nb0 cb0) x.Pending by rw [← hW]; exact ((Q0W.out.below (below_box _ _)).below (below_box _ _)))
  clear hW
  have LTX := Lib.hid X0.out.lt
  have LTY := Lib.hid Y0.out.lt
  (with_reducible refine (eqNumberedFrameS P00.out Q00.out).mono ?_)
  rintro e w1 ⟨rfl, hb⟩
  have SS1 := Lib.hid hb.size
  have B1 := Lib.hid (B0.out.trans (hb.mono B0.out.size))
  have X1 := Lib.hid (X0.out.below hb)
  have Y1 := Lib.hid (Y0.out.below hb)
  have P01 := Lib.hid (P00.out.below hb)
  have Q01 := Lib.hid (Q00.out.below hb)
  clear hb B0 X0 Y0 P00 Q00
  have cX0 : w1.cell? ⟨w.heap.size, 0, none⟩ = some (.int .i64 x.Start) := X1.out.cell 0
  have cX1 : w1.cell? ⟨w.heap.size, 1, none⟩ = some (.slice A0 n0 c0) := X1.out.cell 1
  have cY0 : w1.cell? ⟨w.heap.size + 1, 0, none⟩ = some (.int .i64 x.Start) := Y1.out.cell 0
  have cY1 : w1.cell? ⟨w.heap.size + 1, 1, none⟩ = some (.slice Ab0 nb0 cb0) := Y1.out.cell 1
  go_wp2_with fail
  clear cX0 cX1 cY0 cY1
  go_ret
  exact ⟨rfl, B1.out⟩
def rob_mv (q : Int) (x : Rob) : Rob := { x with Pending := rowNf.mkx (q) x.Pending }
def rob_tv (x : Rob) : Nat := rowNf.tot x.Pending
set_option maxRecDepth 100000 in
set_option maxHeartbeats 4000000 in
theorem markReorderBuffer {w : World} {lo hi : Nat} {fp : List Nat} {v : Value} {x : Rob} (q : Int) (h : OO rob w lo hi fp v x) (hq : 0 ≤ q ∧ q + (rob_tv x : Nat) ≤ 1099511627776) (hs : rob.sz x ≤ 67108864) :
    Calls Try.prog 33 #[v, .int .i64 q] w (MkPost rob (rob_mv q x) (q + (rob_tv x : Nat)) lo hi fp v w) := by
  obtain ⟨A0, n0, c0, f0, rfl, g0, hf, hn⟩ := rob_o h
  have HH := Lib.hid h.hi_
  have P0 := Lib.hid (g0.below (below_box w (.cells #[.int .i64 x.Start, .slice A0 n0 c0] 31)))
  have LT0 := Lib.hid (S_lt g0)
  have hq2 : 0 ≤ q ∧ q + (rowNf.tot x.Pending : Nat) ≤ 1099511627776 := hq
  have HQ := Lib.hid hq2
  have HS := Lib.hid (show rowNf.sz x.Pending ≤ 67108864 from hs)
  subst hf
  clear h g0 hq hs hq2
  go_enter Try.func33, Try.ntmps33
  go_wp2_with fail
  (with_reducible refine (markNumberedFrameS q P0.out HQ.out HS.out).mono ?_)
  rintro e w1 hp
  obtain ⟨rfl, ho, hk⟩ := hp.parts
  have O1 := Lib.hid ho
  have K1 := Lib.hid ((ks_below (below_box w (.cells #[.int .i64 x.Start, .slice A0 n0 c0] 31)) fp).trans hk)
  clear hp ho hk
  go_wp2_with fail
  go_ret
  exact ⟨rfl, rob_mk (x := rob_mv q x) O1.out hn, K1.out⟩
set_option maxRecDepth 100000 in
set_option maxHeartbeats 4000000 in
theorem heldReorderBuffer {w : World} {lo hi : Nat} {v : Value} {x : Rob} (q : Int) (h : RR rob w lo hi v (rob_mv q x)) (hq : 0 ≤ q ∧ q + (rob_tv x : Nat) ≤ 1099511627776) (hs : rob.sz x ≤ 67108864) :
    Calls Try.prog 34 #[v, .int .i64 q] w (NPost (q + (rob_tv x : Nat)) w) := by
  obtain ⟨A0, n0, c0, rfl, g0⟩ := rob_r h
  have P0 := Lib.hid (show RR rowNf (w.alloc (.cells #[.int .i64 x.Start, .slice A0 n0 c0] 31)) lo hi (.slice A0 n0 c0) (rowNf.mkx q x.Pending) from g0.below (below_box _ _))
  have hq2 : 0 ≤ q ∧ q + (rowNf.tot x.Pending : Nat) ≤ 1099511627776 := hq
  have HQ := Lib.hid hq2
  have HS := Lib.hid (show rowNf.sz x.Pending ≤ 67108864 from hs)
  show Calls Try.prog 34 #[robV x (.slice A0 n0 c0), .int .i64 q] w (NPost (q + (rowNf.tot x.Pending : Nat)) w)
  obtain ⟨t, ht⟩ : ∃ t, q + (rowNf.tot x.Pending : Nat) = t := ⟨_, rfl⟩
  have hng : ¬ t < 0 := by omega
  have HT := Lib.hid ht
  rw [ht]
  clear h g0 hq hs hq2 ht
  go_enter Try.func34, Try.ntmps34
  go_wp2_with fail
  (with_reducible refine (heldNumberedFrameS q P0.out HQ.out HS.out).mono ?_)
  rw [HT.out]
  rintro e w1 ⟨rfl, hb⟩
  have B1 := Lib.hid ((below_box w (.cells #[.int .i64 x.Start, .slice A0 n0 c0] 31)).trans (hb.mono (by simp)))
  clear hb
  go_wp2_with fail
  go_ret
  exact ⟨rfl, B1.out⟩
end Go.Proofs.Ytmmhleobgpgliaa.ux
end

section
namespace Go.Proofs.Ytmmhleobgpgliaa.ro
open Go.RowKit sl harn bx stw
set_option linter.unusedVariables false
open ux (Nf Rob RR OO row rowB rowNf nf rob)
open mrw (blkOf)
open bs (nsq sqd)
set_option linter.unusedSimpArgs false

theorem nf_len {w : World} {lo hi n c : Nat} {A : Option Addr} {xs : List Nf} (h : RR rowNf w lo hi (.slice A n c) xs) : xs.length = n ∧ n ≤ c ∧ c ≤ 9223372036854775807 := by
  obtain ⟨A', n', c', e, h1, h2, h3⟩ := ux.row_open (show RR (row 85 nf) w lo hi _ xs from h)
  injection e with e1 e2 e3
  subst e1 e2 e3
  exact ⟨h1, h2, h3⟩
theorem drop_at {α : Type} {l : List α} {k : Nat} {x : α} (h : l[k]? = some x) : l.drop k = x :: l.drop (k + 1) := by
  have hk := (List.getElem?_eq_some_iff.1 h).1
  rw [List.drop_eq_getElem_cons hk]
  congr 1
  rw [List.getElem?_eq_getElem hk] at h
  exact Option.some.inj h
theorem below_box (w : World) (o : Obj) : Below w.heap.size w (w.alloc o) := bx.below_box w o
theorem vr_false {s : Int} {xs : List Nf} (h : okp s 0 xs = false) : vr ⟨s, xs⟩ = false := by unfold vr; rw [h]; rfl
theorem vr_end {s : Int} {xs : List Nf} {v : Bool} (h : okp s 0 xs = true) (hv : decide (0 ≤ s ∧ s ≤ 4095) = v) : vr ⟨s, xs⟩ = v := by unfold vr; rw [h, hv]; rfl
set_option maxRecDepth 100000 in
set_option maxHeartbeats 4000000 in
theorem fits (A : Option Addr) (n c : Nat) (v : Bool) (w : World) (h : decide (n ≤ 100) = v) :
    Calls Try.prog 59 #[.slice A n c] w fun e w' => e = .returned (.bool v) ∧ w = w' := by
  have H : decide ((n : Int) ≤ 100) = v := by rw [← h]; simp; omega
  clear h
  go_enter Try.func59, Try.ntmps59
  go_wp2
  go_ret
  exact ⟨by first | rfl | rw [H], rfl⟩
set_option maxRecDepth 100000 in
set_option maxHeartbeats 4000000 in
theorem ahead (d : Int) (v : Bool) (w : World) (h : decide (0 ≤ d ∧ d ≤ 2047) = v) :
    Calls Try.prog 58 #[.int .i64 d] w fun e w' => e = .returned (.bool v) ∧ w = w' := by
  have H := Lib.hid h
  clear h
  go_enter Try.func58, Try.ntmps58
  go_wp2_with fail
  (with_reducible refine (inR d 0 2047 v _ H.out).mono ?_)
  rintro e wq ⟨rfl, rfl⟩
  go_wp2_with fail
  go_ret
  exact ⟨rfl, rfl⟩
set_option maxRecDepth 100000 in
set_option maxHeartbeats 4000000 in
theorem implVr (s : Int) (xs : List Nf) (lo hi : Nat) (A : Option Addr) (n c : Nat) (w : World) (h : RR rowNf w lo hi (.slice A n c) xs) :
    Calls Try.prog 22 #[.agg #[.int .i64 s, .slice A n c]] w (BPost (vr ⟨s, xs⟩) w) := by
  have RW := Lib.hid h
  obtain ⟨hlR, hncR, hcmR⟩ := nf_len h
  have HL := Lib.hid hlR
  have LHR := Lib.hid (show hi ≤ w.heap.size from h.hi_)
  clear hlR h
  go_enter Try.func22, Try.ntmps22
  go_wp2_with fail
  obtain ⟨w0, hW⟩ : ∃ w0, w.alloc (.cells #[.int .i64 s, .slice A n c] 31) = w0 := ⟨_, rfl⟩
  rw [hW]
  have B0 := Lib.hid (show Below w.heap.size w w0 by rw [← hW]; exact (Below.refl _ _).alloc (by simp <;> omega) _)
  have X0 := Lib.hid (show Bx 31 w0 (w.heap.size) #[.int .i64 s, .slice A n c] by
      rw [← hW]
      have hh := Bx.made 31 w #[.int .i64 s, .slice A n c]
      exact hh)
  have R0 := Lib.hid (show RR rowNf w0 lo hi (.slice A n c) xs by rw [← hW]; exact (RW.out.below (below_box _ _)))
  clear hW
  have LTX := Lib.hid X0.out.lt
  have cX0 : w0.cell? ⟨w.heap.size, 0, none⟩ = some (.int .i64 s) := X0.out.cell 0
  have cX1 : w0.cell? ⟨w.heap.size, 1, none⟩ = some (.slice A n c) := X0.out.cell 1
  go_wp2_with fail
  clear cX0 cX1
  go_loopw [3, 10] (fun v0 v1 wr => ∃ (p : Int) (k : Nat), v0 = .int .i64 p ∧ v1 = .int .i64 ((k : Int)) ∧ (k ≤ n) ∧ (0 ≤ p ∧ p ≤ 15) ∧ (okp s 0 xs = okp s p (xs.drop k)) ∧ Below w.heap.size w wr ∧ Bx 31 wr w.heap.size #[.int .i64 s, .slice A n c] ∧ RR rowNf wr lo hi (.slice A n c) xs) (fun _ i _ => n - (intOf i).toNat)
  case atStart => exact ⟨0, 0, rfl, rfl, by omega, by omega, by rw [List.drop_zero], B0.out, X0.out, R0.out⟩
  case round =>
    obtain ⟨p, k, rfl, rfl, ghk, ghp, ghe, gB1, gX1, gR1⟩ := hrel
    have B1 := Lib.hid gB1
    have X1 := Lib.hid gX1
    have R1 := Lib.hid gR1
    have hk := Lib.hid ghk
    have hp := Lib.hid ghp
    have he := Lib.hid ghe
    clear gB1 gX1 gR1 ghk ghp ghe
    have LUX1 := Lib.hid X1.out.lt
    have SBR1 := Lib.hid B1.out.size
    have hk9 := hk.out
    have hp9 := hp.out
    by_cases hlt : k < n
    · have hlt2 : (k : Int) < n := by omega
      obtain ⟨g, off, x, u, hA, hy, hg1, hg2, hru, hxu⟩ := ux.row_at (R1.out : RR (row 85 nf) _ _ _ _ _) hlt
      obtain ⟨A0, n0, c0_, rfl, hb0⟩ := ux.nf_r hxu
      subst hA
      have k0 : wr.cell? ⟨g, off + k * 2, none⟩ = some (.int .i64 x.Seq) := hru 0 _ rfl
      have k1 : wr.cell? ⟨g, off + k * 2 + 1, none⟩ = some (.slice A0 n0 c0_) := hru 1 _ rfl
      have HY := Lib.hid hy
      have HN0 := Lib.hid (ux.rd_of hb0).len
      have hn0 := (ux.rd_of hb0).cap_
      have F1 := Lib.hid hb0
      clear hy hru hxu hb0 hg1 hg2
      obtain ⟨d, hd⟩ : ∃ v, sqd s x.Seq = v := ⟨_, rfl⟩
      have HD := Lib.hid hd
      clear hd
      have hdr : -1 ≤ d ∧ d ≤ 4095 := by rw [← HD.out]; exact bs.sqd_rng _ _
      obtain ⟨v, hv⟩ : ∃ v, decide (p + 1 ≤ d ∧ d ≤ 15) = v := ⟨_, rfl⟩
      have HV := Lib.hid hv
      clear hv
      obtain ⟨v2, hv2⟩ : ∃ v, decide (n0 ≤ 100) = v := ⟨_, rfl⟩
      have HV2 := Lib.hid hv2
      clear hv2
      have HOK := Lib.hid (show okp s 0 xs = (v && v2 && okp s d (xs.drop (k + 1))) by rw [he.out, drop_at HY.out, okp, HD.out, HV.out, HN0.out, HV2.out])
      have cX0 : wr.cell? ⟨w.heap.size, 0, none⟩ = some (.int .i64 s) := X1.out.cell 0
      have cX1 : wr.cell? ⟨w.heap.size, 1, none⟩ = some (.slice (some ⟨g, off, none⟩) n c) := X1.out.cell 1
      obtain ⟨b2, hbb⟩ : ∃ b, wr.heap.size = b := ⟨_, rfl⟩
      go_upto_region 5 with fail
      generalize hW : wr.alloc (.cells #[.int .i64 x.Seq, .slice A0 n0 c0_] 85) = w2
      have LV := Lib.hid (show w.heap.size ≤ b2 ∧ w.heap.size < b2 ∧ hi ≤ b2 ∧ hi ≤ b2 by have h1 := B1.out.size; have h2X := X1.out.lt; have h2R := R1.out.hi_; have h2F := F1.out.hi_; have h3 := hbb; omega)
      have V2 := Lib.hid (show Bx 85 w2 b2 #[.int .i64 x.Seq, .slice A0 n0 c0_] by rw [← hW, ← hbb]; exact Bx.made _ _ _)
      have hb : Below wr.heap.size wr w2 := by rw [← hW]; exact below_box _ _
      (try rw [hbb])
      clear hW hbb
      have SS2 := Lib.hid hb.size
      have B2 := Lib.hid (B1.out.trans (hb.mono B1.out.size))
      have X2 := Lib.hid (X1.out.below hb)
      have R2 := Lib.hid (R1.out.below hb)
      have F2 := Lib.hid (F1.out.below hb)
      clear hb B1 X1 R1 F1
      have LWV := Lib.hid V2.out.lt
      clear k0 k1 cX0 cX1
      have cX0 : w2.cell? ⟨w.heap.size, 0, none⟩ = some (.int .i64 s) := X2.out.cell 0
      have cX1 : w2.cell? ⟨w.heap.size, 1, none⟩ = some (.slice (some ⟨g, off, none⟩) n c) := X2.out.cell 1
      have cV0 : w2.cell? ⟨b2, 0, none⟩ = some (.int .i64 x.Seq) := V2.out.cell 0
      have cV1 : w2.cell? ⟨b2, 1, none⟩ = some (.slice A0 n0 c0_) := V2.out.cell 1
      go_wp2_with fail
      clear cX0 cX1 cV0 cV1
      (with_reducible refine (bs.implSd s x.Seq _).mono ?_)
      rw [HD.out]
      rintro e wq ⟨rfl, rfl⟩
      have cV0 : w2.cell? ⟨b2, 0, none⟩ = some (.int .i64 x.Seq) := V2.out.cell 0
      have cV1 : w2.cell? ⟨b2, 1, none⟩ = some (.slice A0 n0 c0_) := V2.out.cell 1
      go_wp2_with fail
      clear cV0 cV1
      (with_reducible refine (inR d (p + 1) 15 v _ HV.out).mono ?_)
      rintro e wq ⟨rfl, rfl⟩
      cases v with
      | true =>
        have cV0 : w2.cell? ⟨b2, 0, none⟩ = some (.int .i64 x.Seq) := V2.out.cell 0
        have cV1 : w2.cell? ⟨b2, 1, none⟩ = some (.slice A0 n0 c0_) := V2.out.cell 1
        go_wp2_with fail
        clear cV0 cV1
        (with_reducible refine (fits A0 n0 c0_ v2 _ HV2.out).mono ?_)
        rintro e wq ⟨rfl, rfl⟩
        cases v2 with
        | true =>
          go_wp2_with fail
          have hpd := of_decide_eq_true HV.out
          go_roundw
          case rel => exact ⟨d, k + 1, rfl, by go_num, by omega, by omega, by rw [HOK.out]; rfl, B2.out, X2.out, R2.out⟩
          case measure => simp [intOf]; omega
        | false =>
          go_wp2_with fail
          go_ret
          exact ⟨by rw [vr_false (by rw [HOK.out]; rfl)]; rfl, B2.out⟩
      | false =>
        go_wp2_with fail
        go_ret
        exact ⟨by rw [vr_false (by rw [HOK.out]; rfl)]; rfl, B2.out⟩
    · have hlt2 : ¬ (k : Int) < n := by omega
      have HOK := Lib.hid (show okp s 0 xs = true by rw [he.out, List.drop_eq_nil_of_le (by rw [HL.out]; omega)]; rfl)
      obtain ⟨v, hv⟩ : ∃ v, decide (0 ≤ s ∧ s ≤ 4095) = v := ⟨_, rfl⟩
      have HV := Lib.hid hv
      clear hv
      have cX0 : wr.cell? ⟨w.heap.size, 0, none⟩ = some (.int .i64 s) := X1.out.cell 0
      have cX1 : wr.cell? ⟨w.heap.size, 1, none⟩ = some (.slice A n c) := X1.out.cell 1
      go_wp2_with fail
      clear cX0 cX1
      (with_reducible refine (bs.isSq s v _ HV.out).mono ?_)
      rintro e wq ⟨rfl, rfl⟩
      go_wp2_with fail
      go_ret
      exact ⟨by rw [vr_end HOK.out HV.out]; rfl, B1.out⟩
set_option maxRecDepth 100000 in
set_option maxHeartbeats 4000000 in
theorem specVr (s : Int) (xs : List Nf) (lo hi : Nat) (A : Option Addr) (n c : Nat) (w : World) (h : RR rowNf w lo hi (.slice A n c) xs) :
    Calls Try.prog 26 #[.agg #[.int .i64 s, .slice A n c]] w (BPost (vr ⟨s, xs⟩) w) := by
  have RW := Lib.hid h
  obtain ⟨hlR, hncR, hcmR⟩ := nf_len h
  have HL := Lib.hid hlR
  have LHR := Lib.hid (show hi ≤ w.heap.size from h.hi_)
  clear hlR h
  go_enter Try.func26, Try.ntmps26
  go_wp2_with fail
  obtain ⟨w0, hW⟩ : ∃ w0, w.alloc (.cells #[.int .i64 s, .slice A n c] 31) = w0 := ⟨_, rfl⟩
  rw [hW]
  have B0 := Lib.hid (show Below w.heap.size w w0 by rw [← hW]; exact (Below.refl _ _).alloc (by simp <;> omega) _)
  have X0 := Lib.hid (show Bx 31 w0 (w.heap.size) #[.int .i64 s, .slice A n c] by
      rw [← hW]
      have hh := Bx.made 31 w #[.int .i64 s, .slice A n c]
      exact hh)
  have R0 := Lib.hid (show RR rowNf w0 lo hi (.slice A n c) xs by rw [← hW]; exact (RW.out.below (below_box _ _)))
  clear hW
  have LTX := Lib.hid X0.out.lt
  have cX0 : w0.cell? ⟨w.heap.size, 0, none⟩ = some (.int .i64 s) := X0.out.cell 0
  have cX1 : w0.cell? ⟨w.heap.size, 1, none⟩ = some (.slice A n c) := X0.out.cell 1
  go_wp2_with fail
  clear cX0 cX1
  go_loopw [3, 4] (fun v0 v1 wr => ∃ (p : Int) (k : Nat), v0 = .int .i64 p ∧ v1 = .int .i64 ((k : Int)) ∧ (k ≤ n) ∧ (0 ≤ p ∧ p ≤ 15) ∧ (okp s 0 xs = okp s p (xs.drop k)) ∧ Below w.heap.size w wr ∧ Bx 31 wr w.heap.size #[.int .i64 s, .slice A n c] ∧ RR rowNf wr lo hi (.slice A n c) xs) (fun _ i _ => n - (intOf i).toNat)
  case atStart => exact ⟨0, 0, rfl, rfl, by omega, by omega, by rw [List.drop_zero], B0.out, X0.out, R0.out⟩
  case round =>
    obtain ⟨p, k, rfl, rfl, ghk, ghp, ghe, gB1, gX1, gR1⟩ := hrel
    have B1 := Lib.hid gB1
    have X1 := Lib.hid gX1
    have R1 := Lib.hid gR1
    have hk := Lib.hid ghk
    have hp := Lib.hid ghp
    have he := Lib.hid ghe
    clear gB1 gX1 gR1 ghk ghp ghe
    have LUX1 := Lib.hid X1.out.lt
    have SBR1 := Lib.hid B1.out.size
    have hk9 := hk.out
    have hp9 := hp.out
    by_cases hlt : k < n
    · have hlt2 : (k : Int) < n := by omega
      obtain ⟨g, off, x, u, hA, hy, hg1, hg2, hru, hxu⟩ := ux.row_at (R1.out : RR (row 85 nf) _ _ _ _ _) hlt
      obtain ⟨A0, n0, c0_, rfl, hb0⟩ := ux.nf_r hxu
      subst hA
      have k0 : wr.cell? ⟨g, off + k * 2, none⟩ = some (.int .i64 x.Seq) := hru 0 _ rfl
      have k1 : wr.cell? ⟨g, off + k * 2 + 1, none⟩ = some (.slice A0 n0 c0_) := hru 1 _ rfl
      have HY := Lib.hid hy
      have HN0 := Lib.hid (ux.rd_of hb0).len
      have hn0 := (ux.rd_of hb0).cap_
      have F1 := Lib.hid hb0
      clear hy hru hxu hb0 hg1 hg2
      obtain ⟨d, hd⟩ : ∃ v, sqd s x.Seq = v := ⟨_, rfl⟩
      have HD := Lib.hid hd
      clear hd
      have hdr : -1 ≤ d ∧ d ≤ 4095 := by rw [← HD.out]; exact bs.sqd_rng _ _
      obtain ⟨v, hv⟩ : ∃ v, decide (p + 1 ≤ d ∧ d ≤ 15) = v := ⟨_, rfl⟩
      have HV := Lib.hid hv
      clear hv
      obtain ⟨v2, hv2⟩ : ∃ v, decide (n0 ≤ 100) = v := ⟨_, rfl⟩
      have HV2 := Lib.hid hv2
      clear hv2
      have HOK := Lib.hid (show okp s 0 xs = (v && v2 && okp s d (xs.drop (k + 1))) by rw [he.out, drop_at HY.out, okp, HD.out, HV.out, HN0.out, HV2.out])
      have cX0 : wr.cell? ⟨w.heap.size, 0, none⟩ = some (.int .i64 s) := X1.out.cell 0
      have cX1 : wr.cell? ⟨w.heap.size, 1, none⟩ = some (.slice (some ⟨g, off, none⟩) n c) := X1.out.cell 1
      go_upto_region 5 with fail
      have mX0 : ∀ m : bx.Af wr, m.w.cell? ⟨w.heap.size, 0, none⟩ = some (.int .i64 s) := fun m => (bx.Af.cells X1.out m).cell 0
      have mX1 : ∀ m : bx.Af wr, m.w.cell? ⟨w.heap.size, 1, none⟩ = some (.slice (some ⟨g, off, none⟩) n c) := fun m => (bx.Af.cells X1.out m).cell 1
      have q0 : ∀ m : bx.Af wr, m.w.cell? ⟨g, off + k * 2, none⟩ = some (.int .i64 x.Seq) := fun m => (m.below.cell (World.block_lt_of_cell? _ _ k0)).trans k0
      have q1 := Lib.hid (fun m => (bs.specSd s x.Seq m.w).mono fun _ _ h => ⟨h.1, h.2 ▸ Below.refl _ _⟩ : ∀ m : bx.Af wr, Calls Try.prog 29 #[.int .i64 s, .int .i64 x.Seq] m.w fun e w' => e = .returned (.int .i64 ((sqd s x.Seq))) ∧ Below m.w.heap.size m.w w')
      refine bx.region_after (by kernel_rfl) (by kernel_rfl) ?_
      repeat (go_big_quiet_step ((go_at_call 29; with_reducible exact bx.Af.call (q1.out _))))
      refine wpQuiet_nil ?_
      intro _ hw'
      obtain ⟨nq9, hw''⟩ := hw'
      subst hw''
      clear mX0 mX1 q0 q1 k0
      obtain ⟨w2, hw5⟩ : ∃ w5, nq9.w = w5 := ⟨_, rfl⟩
      have hb := nq9.below
      rw [hw5] at hb
      (try rw [hw5])
      clear hw5
      have k1' : w2.cell? ⟨g, off + k * 2 + 1, none⟩ = some (.slice A0 n0 c0_) := (hb.cell (World.block_lt_of_cell? _ _ k1)).trans k1
      clear k1
      have k1 := k1'
      clear k1'
      have SS2 := Lib.hid hb.size
      clear cX0 cX1
      have B2 := Lib.hid (B1.out.trans (hb.mono B1.out.size))
      have X2 := Lib.hid (X1.out.below hb)
      have R2 := Lib.hid (R1.out.below hb)
      have F2 := Lib.hid (F1.out.below hb)
      clear hb nq9 B1 X1 R1 F1
      rw [HD.out]
      have cX0 : w2.cell? ⟨w.heap.size, 0, none⟩ = some (.int .i64 s) := X2.out.cell 0
      have cX1 : w2.cell? ⟨w.heap.size, 1, none⟩ = some (.slice (some ⟨g, off, none⟩) n c) := X2.out.cell 1
      go_wp2_with fail
      (with_reducible refine (l1R d (p + 1) 15 v _ HV.out).mono ?_)
      rintro e wq ⟨rfl, rfl⟩
      cases v with
      | true =>
        cases v2 with
        | true =>
          have h100 : ¬ (100 : Int) < (n0 : Int) := by have := of_decide_eq_true HV2.out; omega
          go_wp2_with fail
          have hpd := of_decide_eq_true HV.out
          clear cX0 cX1 k1
          go_roundw
          case rel => exact ⟨d, k + 1, rfl, by go_num, by omega, by omega, by rw [HOK.out]; rfl, B2.out, X2.out, R2.out⟩
          case measure => simp [intOf]; omega
        | false =>
          have h100 : (100 : Int) < (n0 : Int) := by have h7 := of_decide_eq_false HV2.out; omega
          go_wp2_with fail
          go_ret
          exact ⟨by rw [vr_false (by rw [HOK.out]; rfl)]; rfl, B2.out⟩
      | false =>
        go_wp2_with fail
        go_ret
        exact ⟨by rw [vr_false (by rw [HOK.out]; rfl)]; rfl, B2.out⟩
    · have hlt2 : ¬ (k : Int) < n := by omega
      have HOK := Lib.hid (show okp s 0 xs = true by rw [he.out, List.drop_eq_nil_of_le (by rw [HL.out]; omega)]; rfl)
      obtain ⟨v, hv⟩ : ∃ v, decide (0 ≤ s ∧ s ≤ 4095) = v := ⟨_, rfl⟩
      have HV := Lib.hid hv
      clear hv
      have cX0 : wr.cell? ⟨w.heap.size, 0, none⟩ = some (.int .i64 s) := X1.out.cell 0
      have cX1 : wr.cell? ⟨w.heap.size, 1, none⟩ = some (.slice A n c) := X1.out.cell 1
      go_wp2_with fail
      clear cX0 cX1
      (with_reducible refine (l1R s 0 4095 v _ HV.out).mono ?_)
      rintro e wq ⟨rfl, rfl⟩
      go_wp2_with fail
      go_ret
      exact ⟨by rw [vr_end HOK.out HV.out]; rfl, B1.out⟩
end Go.Proofs.Ytmmhleobgpgliaa.ro
end

section
namespace Go.Proofs.Ytmmhleobgpgliaa.enc

/-- The varint of a number. -/
def enc (n : Nat) : List Int := if n < 128 then [(n : Int)] else ((n % 128 + 128 : Nat) : Int) :: enc (n / 128)
termination_by n
decreasing_by omega
theorem enc_less {n : Nat} (h : n < 128) : enc n = [(n : Int)] := by rw [enc, if_pos h]
theorem enc_more {n : Nat} (h : 128 ≤ n) : enc n = ((n % 128 + 128 : Nat) : Int) :: enc (n / 128) := by rw [enc, if_neg (by omega)]
theorem enc_len : ∀ (k n : Nat), n < 128 ^ (k + 1) → (enc n).length ≤ k + 1
  | 0, n, h => by rw [enc_less (by simpa using h)]; simp
  | k + 1, n, h => by
    by_cases h1 : n < 128
    · rw [enc_less h1]; simp
    · rw [enc_more (by omega), List.length_cons]
      have := enc_len k (n / 128) (by rw [Nat.div_lt_iff_lt_mul (by omega)]; rw [Nat.pow_succ] at h; exact h)
      omega
theorem enc_len6 {n : Nat} (h : n ≤ 1000000000000) : (enc n).length ≤ 6 := enc_len 5 n (by omega)
theorem enc_pos (n : Nat) : 1 ≤ (enc n).length := by rw [enc]; split <;> simp
theorem enc_wf (n : Nat) : ∀ z ∈ enc n, 0 ≤ z ∧ z ≤ 255 := by
  induction n using Nat.strongRecOn with
  | _ n ih =>
    intro z hz
    by_cases h : n < 128
    · rw [enc_less h] at hz
      have : z = n := by simpa using hz
      omega
    · rw [enc_more (by omega)] at hz
      rcases List.mem_cons.1 hz with hz | hz
      · omega
      · exact ih (n / 128) (by omega) z hz

/-- The varint in front of a list: its number and how many bytes; f groups at most, k of them read, a gathered. -/
def dec : Nat → List Int → Nat → Int → Option (Int × Nat)
  | 0, _, _, _ => none
  | _ + 1, [], _, _ => none
  | f + 1, x :: r, k, a => if x < 128 then (if (x = 0 ∧ 0 < k) ∨ 1000000000000 < a + x * 128 ^ k then none else some (a + x * 128 ^ k, k + 1)) else dec f r (k + 1) (a + (x - 128) * 128 ^ k)
theorem dec_zero (l : List Int) (k : Nat) (a : Int) : dec 0 l k a = none := rfl
theorem dec_nil (f k : Nat) (a : Int) : dec f [] k a = none := by cases f <;> rfl
theorem dec_last {f : Nat} {x : Int} {r : List Int} {k : Nat} {a : Int} (h : x < 128) : dec (f + 1) (x :: r) k a = if (x = 0 ∧ 0 < k) ∨ 1000000000000 < a + x * 128 ^ k then none else some (a + x * 128 ^ k, k + 1) := by
  rw [dec, if_pos h]
theorem dec_more {f : Nat} {x : Int} {r : List Int} {k : Nat} {a : Int} (h : ¬ x < 128) : dec (f + 1) (x :: r) k a = dec f r (k + 1) (a + (x - 128) * 128 ^ k) := by
  rw [dec, if_neg h]

theorem dec_enc : ∀ (f n k : Nat) (a : Int) (r : List Int), (enc n).length ≤ f → (0 < k → 0 < n) → a + n * 128 ^ k ≤ 1000000000000 → dec f (enc n ++ r) k a = some (a + n * 128 ^ k, k + (enc n).length) := by
  intro f
  induction f with
  | zero => intro n k a r h; have := enc_pos n; omega
  | succ f ih =>
    intro n k a r h h0 hm
    by_cases hn : n < 128
    · rw [enc_less hn, List.singleton_append, dec_last (by omega), if_neg (by rintro (h | h) <;> omega)]
      rfl
    · have hp : (0 : Int) ≤ 128 ^ k := Int.pow_nonneg (by omega)
      have e : (a + (((n % 128 + 128 : Nat) : Int) - 128) * 128 ^ k) + ((n / 128 : Nat) : Int) * 128 ^ (k + 1) = a + n * 128 ^ k := by
        have e1 : ((n % 128 + 128 : Nat) : Int) - 128 = ((n % 128 : Nat) : Int) := by omega
        have e2 : (n : Int) = ((n % 128 : Nat) : Int) + ((n / 128 : Nat) : Int) * 128 := by omega
        rw [e1, Int.pow_succ]
        conv => rhs; rw [e2]
        rw [Int.add_mul, Int.add_assoc, Int.mul_assoc, Int.mul_comm 128 (128 ^ k)]
      rw [enc_more (by omega)] at h ⊢
      rw [List.cons_append, dec_more (by omega), ih (n / 128) (k + 1) _ r (by simpa using h) (by omega) (by rw [e]; exact hm), e, List.length_cons]
      congr 2; omega

theorem enc_dec : ∀ (f : Nat) (l : List Int) (k : Nat) (a m : Int) (c : Nat), (∀ z ∈ l, 0 ≤ z ∧ z ≤ 255) → dec f l k a = some (m, c) →
    ∃ y : Nat, m = a + y * 128 ^ k ∧ (0 < k → 0 < y) ∧ c = k + (enc y).length ∧ l.take (c - k) = enc y ∧ m ≤ 1000000000000 := by
  intro f
  induction f with
  | zero => intro l k a m c _ h; cases h
  | succ f ih =>
    intro l k a m c hl h
    cases l with
    | nil => cases h
    | cons x r =>
      have hx := hl x (List.mem_cons_self ..)
      by_cases h1 : x < 128
      · rw [dec_last h1] at h
        split at h
        · cases h
        · injection h with h
          injection h with e1 e2
          have ex : ((x.toNat : Nat) : Int) = x := by omega
          have el : enc x.toNat = [x] := by rw [enc_less (by omega), ex]
          rename_i hno
          refine ⟨x.toNat, by rw [ex, e1], fun h => ?_, by rw [el, ← e2]; rfl, ?_, by omega⟩
          · rcases Nat.eq_zero_or_pos x.toNat with h0 | h0
            · exact absurd (Or.inl ⟨by omega, h⟩) hno
            · exact h0
          · rw [el, ← e2, Nat.add_sub_cancel_left]; simp
      · rw [dec_more h1] at h
        obtain ⟨y, e1, e2, e3, e4, e5⟩ := ih r (k + 1) _ m c (fun z hz => hl z (List.mem_cons_of_mem _ hz)) h
        have hy := e2 (by omega)
        have ey : enc ((x - 128).toNat + 128 * y) = x :: enc y := by
          rw [enc_more (by omega)]
          have d1 : ((x - 128).toNat + 128 * y) / 128 = y := by omega
          have d2 : ((((x - 128).toNat + 128 * y) % 128 + 128 : Nat) : Int) = x := by omega
          rw [d1, d2]
        have hc : k + 1 ≤ c := by omega
        refine ⟨(x - 128).toNat + 128 * y, ?_, by omega, by rw [ey, List.length_cons]; omega, ?_, e5⟩
        · rw [e1, Int.pow_succ]
          have e6 : (((x - 128).toNat + 128 * y : Nat) : Int) = (x - 128) + y * 128 := by omega
          rw [e6, Int.add_mul, Int.add_assoc, Int.mul_assoc, Int.mul_comm 128 (128 ^ k)]
        · rw [ey, show c - k = (c - (k + 1)) + 1 by omega, List.take_succ_cons, e4]
theorem dec_c {f : Nat} {l : List Int} {k : Nat} {a m : Int} {c : Nat} (hl : ∀ z ∈ l, 0 ≤ z ∧ z ≤ 255) (h : dec f l k a = some (m, c)) : k + 1 ≤ c ∧ c ≤ k + l.length ∧ (0 ≤ a → a ≤ m) := by
  obtain ⟨y, e1, e2, e3, e4, e5⟩ := enc_dec f l k a m c hl h
  have h1 := enc_pos y
  have h2 := congrArg List.length e4
  rw [List.length_take] at h2
  refine ⟨by omega, by omega, fun h0 => ?_⟩
  have : (0 : Int) ≤ y * 128 ^ k := Int.mul_nonneg (by omega) (Int.pow_nonneg (by omega))
  omega

/-- What AppendUvarint hands back. -/
def uv (b : List Int) (n : Int) : List Int := if 0 ≤ n ∧ n ≤ 1000000000000 then b ++ enc n.toNat else b
theorem uv_in {b : List Int} {n : Int} (h : 0 ≤ n ∧ n ≤ 1000000000000) : uv b n = b ++ enc n.toNat := if_pos h
theorem uv_out {b : List Int} {n : Int} (h : ¬ (0 ≤ n ∧ n ≤ 1000000000000)) : uv b n = b := if_neg h
theorem uv_len (b : List Int) (n : Int) : (uv b n).length ≤ b.length + 6 := by
  unfold uv
  split
  · rename_i h
    rw [List.length_append]
    have := enc_len6 (n := n.toNat) (by omega)
    omega
  · omega
theorem uv_wf {b : List Int} (hb : ∀ z ∈ b, 0 ≤ z ∧ z ≤ 255) (n : Int) : ∀ z ∈ uv b n, 0 ≤ z ∧ z ≤ 255 := by
  unfold uv
  split
  · intro z hz
    rcases List.mem_append.1 hz with hz | hz
    · exact hb z hz
    · exact enc_wf _ z hz
  · exact hb
/-- What ReadUvarint hands back. -/
def rv (b : List Int) (off : Int) : Int × Int × Bool :=
  if 0 ≤ off ∧ off < b.length then
    match dec 6 (b.drop off.toNat) 0 0 with
    | some (m, c) => (m, off + c, true)
    | none => (0, 0, false)
  else (0, 0, false)
theorem rv_out {b : List Int} {off : Int} (h : ¬ (0 ≤ off ∧ off < b.length)) : rv b off = (0, 0, false) := if_neg h
theorem rv_none {b : List Int} {off : Int} (hd : dec 6 (b.drop off.toNat) 0 0 = none) : rv b off = (0, 0, false) := by
  unfold rv; split
  · rw [hd]
  · rfl
theorem rv_some {b : List Int} {off m : Int} {c : Nat} (h : 0 ≤ off ∧ off < b.length) (hd : dec 6 (b.drop off.toNat) 0 0 = some (m, c)) : rv b off = (m, off + c, true) := by
  unfold rv; rw [if_pos h, hd]
/-- What a reading that went well says. -/
theorem rv_ok {b : List Int} (hb : ∀ z ∈ b, 0 ≤ z ∧ z ≤ 255) {off m nx : Int} (h : rv b off = (m, nx, true)) :
    0 ≤ off ∧ off < nx ∧ nx ≤ b.length ∧ 0 ≤ m ∧ m ≤ 1000000000000 ∧ enc m.toNat = (b.drop off.toNat).take (nx - off).toNat := by
  unfold rv at h
  split at h
  · rename_i ho
    cases hd : dec 6 (b.drop off.toNat) 0 0 with
    | none => rw [hd] at h; cases h
    | some p =>
      obtain ⟨m', c⟩ := p
      rw [hd] at h
      injection h with e1 e2; injection e2 with e2 e3
      subst e1 e2
      obtain ⟨y, g1, g2, g3, g4, g5⟩ := enc_dec 6 _ 0 0 m' c (fun z hz => hb z (List.mem_of_mem_drop hz)) hd
      obtain ⟨g6, g7, g8⟩ := dec_c (fun z hz => hb z (List.mem_of_mem_drop hz)) hd
      rw [List.length_drop] at g7
      have ey : m'.toNat = y := by rw [g1]; simp
      refine ⟨ho.1, by omega, by omega, g8 (by omega), g5, ?_⟩
      rw [ey, ← g4]
      congr 1; omega
  · cases h
theorem rv_bad {b : List Int} {off : Int} (h : (rv b off).2.2 = false) : rv b off = (0, 0, false) := by
  unfold rv at h ⊢
  split at h
  · rename_i ho
    rw [if_pos ho]
    cases hd : dec 6 (b.drop off.toNat) 0 0 with
    | none => rfl
    | some p => rw [hd] at h; cases h
  · rename_i ho
    rw [if_neg ho]
theorem rv_enc (b r : List Int) (n : Int) (h : 0 ≤ n ∧ n ≤ 1000000000000) : rv (b ++ (enc n.toNat ++ r)) b.length = (n, (b.length : Int) + ((enc n.toNat).length : Int), true) := by
  have hp := enc_pos n.toNat
  have hd := dec_enc 6 n.toNat 0 0 r (enc_len6 (by omega)) (by omega) (by simp; omega)
  have e : (b ++ (enc n.toNat ++ r)).drop ((b.length : Int)).toNat = enc n.toNat ++ r := by simp
  rw [rv_some (by simp; omega) (by rw [e]; exact hd)]
  simp; omega
end Go.Proofs.Ytmmhleobgpgliaa.enc
end

section
namespace Go.Proofs.Ytmmhleobgpgliaa.uvs
open Go.RowKit sl enc harn

theorem inRange_yes (n a b : Int) (h : a ≤ n ∧ n ≤ b) (w : World) :
    Calls Try.prog 68 #[.int .i64 n, .int .i64 a, .int .i64 b] w fun e w' => e = .returned (.bool true) ∧ w = w' := by
  obtain ⟨h1, h2⟩ := h
  go_enter Try.func68, Try.ntmps68
  go_wp2
  go_ret
  exact ⟨rfl, rfl⟩
theorem inRange_no (n a b : Int) (h : ¬ (a ≤ n ∧ n ≤ b)) (w : World) :
    Calls Try.prog 68 #[.int .i64 n, .int .i64 a, .int .i64 b] w fun e w' => e = .returned (.bool false) ∧ w = w' := by
  by_cases h1 : a ≤ n
  · have h2 : ¬ n ≤ b := by omega
    clear h
    go_enter Try.func68, Try.ntmps68
    go_wp2
    go_ret
    exact ⟨rfl, rfl⟩
  · clear h
    go_enter Try.func68, Try.ntmps68
    go_wp2
    go_ret
    exact ⟨rfl, rfl⟩
theorem l1In_yes (n a b : Int) (h : a ≤ n ∧ n ≤ b) (w : World) :
    Calls Try.prog 57 #[.int .i64 n, .int .i64 a, .int .i64 b] w fun e w' => e = .returned (.bool true) ∧ w = w' := by
  obtain ⟨h1, h2⟩ := h
  go_enter Try.func57, Try.ntmps57
  go_wp2
  go_ret
  exact ⟨rfl, rfl⟩
theorem l1In_no (n a b : Int) (h : ¬ (a ≤ n ∧ n ≤ b)) (w : World) :
    Calls Try.prog 57 #[.int .i64 n, .int .i64 a, .int .i64 b] w fun e w' => e = .returned (.bool false) ∧ w = w' := by
  by_cases h1 : a ≤ n
  · have h2 : ¬ n ≤ b := by omega
    clear h
    go_enter Try.func57, Try.ntmps57
    go_wp2
    go_ret
    exact ⟨rfl, rfl⟩
  · clear h
    go_enter Try.func57, Try.ntmps57
    go_wp2
    go_ret
    exact ⟨rfl, rfl⟩

/-- A part of a slice of bytes: it is read where it lies. -/
def PartPost (lo hi : Nat) (zs : List Int) (i j : Nat) (w : World) (e : Ending) (w' : World) : Prop :=
  ∃ A, e = .returned (.slice A (j - i) (j - i)) ∧ Rd .u8 w lo hi A (j - i) (j - i) ((zs.drop i).take (j - i)) ∧ w = w'
theorem part (lo hi : Nat) (A : Option Addr) (n cap : Nat) (zs : List Int) (i j : Nat) (w : World) (h : Rd .u8 w lo hi A n cap zs) (h1 : i ≤ j) (h2 : j ≤ n) :
    Calls Try.prog 101 #[.slice A n cap, .int .i64 i, .int .i64 j] w (PartPost lo hi zs i j w) := by
  have hb := h.cap_
  have h3 : j ≤ cap := by omega
  have HR := Lib.hid h
  clear h
  by_cases hij : j = i
  · subst hij
    go_enter Try.func101, Try.ntmps101
    go_wp2
    go_ret
    exact ⟨A, by rw [Nat.sub_self]; rfl, HR.out.cut j j (j - j) A (fun h => by omega) h1 h2 (Nat.le_refl _) (by unfold maxLen; omega), rfl⟩
  · go_enter Try.func101, Try.ntmps101
    go_wp2
    go_ret
    exact ⟨_, rfl, HR.out.cut i j (j - i) _ (fun h => by simp) h1 h2 (Nat.le_refl _) (by unfold maxLen; omega), rfl⟩

/-- A copy in new memory. -/
theorem copyPart (lo hi : Nat) (A : Option Addr) (n cap : Nat) (zs : List Int) (i j : Nat) (w : World) (h : Rd .u8 w lo hi A n cap zs) (h1 : i ≤ j) (h2 : j ≤ n) (hn : n ≤ 134217728) :
    Calls Try.prog 89 #[.slice A n cap, .int .i64 i, .int .i64 j] w (SlPost 5 .u8 w ((zs.drop i).take (j - i))) := by
  obtain ⟨i0, hi0, hz0, hz1, hz2⟩ := info_parts u8Info
  have hb := h.cap_
  have HR := Lib.hid h
  have HZ := Lib.hid (And.intro hi0 (And.intro hz0 (And.intro hz1 hz2)))
  clear h hi0 hz0 hz1 hz2
  go_enter Try.func89, Try.ntmps89
  go_wp2_with (first
    | (go_at_call 101; refine (part lo hi A n cap zs i j _ (HR.out.alloc _) h1 h2).mono ?_; rintro e w1 ⟨B, rfl, hr, rfl⟩; have HP := Lib.hid hr; clear hr)
    | (at_builtin; refine wpList_app _ rfl _ _ 22 rfl 5 i0 _ .u8 Try.underlying22 HZ.out.1 HZ.out.2.1 HZ.out.2.2.1 (by rw [HZ.out.2.2.2]; omega) rfl rfl rfl (Ow.empty _ _ _) HP.out (by omega) (by simp) ?_; intro A1 cap1 w1 ho hb1; have HO := Lib.hid ho; have HB := Lib.hid hb1; clear ho hb1))
  go_ret
  refine ⟨_, _, _, rfl, by simpa using HO.out, ?_⟩
  exact ((Below.refl _ _).alloc (Nat.le_refl _) _).trans HB.out

/-- A slice of bytes from block lo on, below which nothing has turned. -/
def AddPost (lo : Nat) (w : World) (zs : List Int) (e : Ending) (w' : World) : Prop :=
  ∃ A n cap, e = .returned (.slice A n cap) ∧ Ow 5 .u8 w' lo w'.heap.size A n cap zs ∧ Below lo w w'
theorem AddPost.intro {lo : Nat} {w w' : World} {zs : List Int} {A : Option Addr} {n cap hi : Nat} (h : Ow 5 .u8 w' lo hi A n cap zs) (hb : Below lo w w') : AddPost lo w zs (.returned (.slice A n cap)) w' :=
  ⟨A, n, cap, rfl, h.up, hb⟩
/-- A varint that is being written: what is there, and what is to come. -/
def Way (lo : Nat) (w wr : World) (zs : List Int) (N : Nat) (b x : Value) : Prop :=
  ∃ A m cap l y, b = .slice A m cap ∧ x = .int .i64 (y : Nat) ∧ l ++ enc y = zs ++ enc N ∧ Ow 5 .u8 wr lo wr.heap.size A m cap l ∧ Below lo w wr ∧ y ≤ N ∧ lo ≤ wr.heap.size
theorem way_step {l zs : List Int} {y N : Nat} (h : l ++ enc y = zs ++ enc N) (hy : 128 ≤ y) : (l ++ [((y % 128 + 128 : Nat) : Int)]) ++ enc (y / 128) = zs ++ enc N := by
  rw [← h, enc_more hy]; simp
theorem way_last {l zs : List Int} {y N : Nat} (h : l ++ enc y = zs ++ enc N) (hy : y < 128) : l ++ [(y : Int)] = zs ++ enc N := by
  rw [← h, enc_less hy]
theorem way_len {l zs : List Int} {y N : Nat} (h : l ++ enc y = zs ++ enc N) (hN : N ≤ 1000000000000) : l.length ≤ zs.length + 5 := by
  have e := congrArg List.length h
  rw [List.length_append, List.length_append] at e
  have := enc_pos y
  have := enc_len6 hN
  omega
theorem below_push {lo : Nat} {w wr w' : World} {o : Obj} (h : Below lo w wr) (hl : lo ≤ wr.heap.size) (hb : Below lo (wr.alloc o) w') : Below lo w w' := (h.alloc hl o).trans hb

theorem or128 (x : Int) (h0 : 0 ≤ x) (h1 : x < 128) : bits .or .i64 x 128 = x + 128 := by
  obtain ⟨k, rfl⟩ := Int.eq_ofNat_of_zero_le h0
  have e : (k ||| 128) = k + 128 := by
    have := Nat.two_pow_add_eq_or_of_lt (show k < 2 ^ 7 by omega) 1
    rw [Nat.or_comm]
    simpa [Nat.add_comm] using this.symm
  show IntKind.i64.wrap ((BitVec.ofInt 64 (k : Int) ||| BitVec.ofInt 64 128).toNat : Int) = _
  rw [BitVec.toNat_or]
  have e1 : (BitVec.ofInt 64 (k : Int)).toNat = k := by rw [BitVec.ofInt_natCast, BitVec.toNat_ofNat]; omega
  have e2 : (BitVec.ofInt 64 128).toNat = 128 := by rfl
  rw [e1, e2, e, IntKind.wrap_i64]
  omega
theorem and127 (x : Int) : bits .and .i64 x 127 = x % 128 := i64_and127 x

end Go.Proofs.Ytmmhleobgpgliaa.uvs
end

section
namespace Go.Proofs.Ytmmhleobgpgliaa.ro
open Go.RowKit sl harn bx stw
set_option linter.unusedVariables false
open ux (Nf Rob RR OO row rowB rowNf nf rob)
open mrw (blkOf)
open bs (nsq sqd)
set_option linter.unusedSimpArgs false

theorem infoNF : (Try.prog.info? 85).map (fun i => (i.zero, i.size, i.bytes)) = some (some (.agg #[.int .i64 0, .slice none 0 0]), 2, 32) := by kernel_rfl
theorem oo_narrow {α : Type} {S : ux.Rep α} {w : World} {lo lo2 hi : Nat} {fp : List Nat} {v : Value} {x : α} (h : OO S w lo hi fp v x) (hf : ∀ b, b ∈ fp → lo2 ≤ b) : OO S w lo2 hi fp v x := ⟨h.1, fun b hb => ⟨hf b hb, (h.2.1 b hb).2⟩, h.2.2⟩
theorem part_all {zs : List Int} {n : Nat} (h : zs.length = n) : (zs.drop 0).take (n - 0) = zs := by rw [List.drop_zero, Nat.sub_zero, List.take_of_length_le (by omega)]
/-- What a function hands back that is a buffer of the call's own. -/
def RoPost (r : Rob) (w : World) (e : Ending) (w' : World) : Prop := ∃ A n c fp, e = .returned (.agg #[.int .i64 r.Start, .slice A n c]) ∧ OO rowNf w' w.heap.size w'.heap.size fp (.slice A n c) r.Pending ∧ Below w.heap.size w w'
theorem ro_parts {r : Rob} {w : World} {e : Ending} {w' : World} (h : RoPost r w e w') : ∃ A n c fp, e = .returned (.agg #[.int .i64 r.Start, .slice A n c]) ∧ OO rowNf w' w.heap.size w'.heap.size fp (.slice A n c) r.Pending ∧ Below w.heap.size w w' := h
/-- .. that is read. -/
def RrPost (r : Rob) (w : World) (e : Ending) (w' : World) : Prop := ∃ A n c, e = .returned (.agg #[.int .i64 r.Start, .slice A n c]) ∧ RR rowNf w' w.heap.size w'.heap.size (.slice A n c) r.Pending ∧ Below w.heap.size w w'
theorem rr_parts {r : Rob} {w : World} {e : Ending} {w' : World} (h : RrPost r w e w') : ∃ A n c, e = .returned (.agg #[.int .i64 r.Start, .slice A n c]) ∧ RR rowNf w' w.heap.size w'.heap.size (.slice A n c) r.Pending ∧ Below w.heap.size w w' := h
theorem up {α : Type} {S : ux.Rep α} {w : World} {lo lo2 hi : Nat} {fp : List Nat} {v : Value} {x : α} (h : OO S w lo hi fp v x) (hl : lo2 ≤ lo) : OO S w lo2 w.heap.size fp v x := h.wide hl
set_option maxRecDepth 100000 in
set_option maxHeartbeats 4000000 in
theorem implNew (m : Int) (w : World) :
    Calls Try.prog 15 #[.int .i64 m] w (RoPost (new m) w) := by
  by_cases hm : 0 ≤ m ∧ m ≤ 4095
  · have H1 := Lib.hid (show decide (0 ≤ m ∧ m ≤ 4095) = true from decide_eq_true hm)
    have HE := Lib.hid (show new m = ⟨m, []⟩ by unfold new; rw [if_pos hm])
    clear hm
    go_enter Try.func15, Try.ntmps15
    go_wp2_with fail
    obtain ⟨w0, hW⟩ : ∃ w0, w.alloc (.cells #[.int .i64 0, .slice none 0 0] 31) = w0 := ⟨_, rfl⟩
    rw [hW]
    have B0 := Lib.hid (show Below w.heap.size w w0 by rw [← hW]; exact (Below.refl _ _).alloc (by simp <;> omega) _)
    have Z0 := Lib.hid (show Bx 31 w0 (w.heap.size) #[.int .i64 0, .slice none 0 0] by
        rw [← hW]
        have hh := Bx.made 31 w #[.int .i64 0, .slice none 0 0]
        exact hh)
    clear hW
    have LTZ := Lib.hid Z0.out.lt
    (with_reducible refine (bs.isSq m true _ H1.out).mono ?_)
    rintro e wq ⟨rfl, rfl⟩
    go_upto_region 3 with fail
    obtain ⟨be, hbb⟩ : ∃ b, w0.heap.size = b := ⟨_, rfl⟩
    have hX := Bx.made 85 w0 #[]
    have hb := bx.below_box w0 (.cells #[] 85)
    rw [hbb] at hX
    go_wp2_with (refine stw.list_store rfl 31 _ _ rfl (w.heap.size) #[.int .i64 m, .slice (some ⟨be, 0, none⟩) 0 0] rfl rfl 31 _ (Z0.out.below hb) rfl ux.szRob (ux.oneRob _ _ _ _) ?_; intro wz hz)
    have HB := Lib.hid (hz.on (B0.out.trans (hb.mono B0.out.size)) (Nat.le_refl _))
    have HO := Lib.hid (show OO rowNf wz w.heap.size wz.heap.size [be] (.slice (some ⟨be, 0, none⟩) 0 0) [] from ((ux.row_empty 85 nf (hz.keep hX (by have := Z0.out.lt; omega))).wide (by have := B0.out.size; omega)))
    (try simp only [Exit.inBlock, Exit.then])
    refine bodyPost_ret (v := .agg #[.int .i64 m, .slice (some ⟨be, 0, none⟩) 0 0]) ?_ rfl ?_
    · rw [results_cell1 rfl]
      exact stw.back hz.box Try.underlying31 rfl ux.szRob
    · rw [HE.out]; exact ⟨_, _, _, _, rfl, HO.out, HB.out⟩
  · have H1 := Lib.hid (show decide (0 ≤ m ∧ m ≤ 4095) = false from decide_eq_false hm)
    have HE := Lib.hid (show new m = ⟨0, []⟩ by unfold new; rw [if_neg hm])
    clear hm
    go_enter Try.func15, Try.ntmps15
    go_wp2_with fail
    obtain ⟨w0, hW⟩ : ∃ w0, w.alloc (.cells #[.int .i64 0, .slice none 0 0] 31) = w0 := ⟨_, rfl⟩
    rw [hW]
    have B0 := Lib.hid (show Below w.heap.size w w0 by rw [← hW]; exact (Below.refl _ _).alloc (by simp <;> omega) _)
    have Z0 := Lib.hid (show Bx 31 w0 (w.heap.size) #[.int .i64 0, .slice none 0 0] by
        rw [← hW]
        have hh := Bx.made 31 w #[.int .i64 0, .slice none 0 0]
        exact hh)
    clear hW
    have LTZ := Lib.hid Z0.out.lt
    (with_reducible refine (bs.isSq m false _ H1.out).mono ?_)
    rintro e wq ⟨rfl, rfl⟩
    go_upto_region 3 with fail
    obtain ⟨be, hbb⟩ : ∃ b, w0.heap.size = b := ⟨_, rfl⟩
    have hX := Bx.made 85 w0 #[]
    have hb := bx.below_box w0 (.cells #[] 85)
    rw [hbb] at hX
    go_wp2_with (refine stw.list_store rfl 31 _ _ rfl (w.heap.size) #[.int .i64 0, .slice (some ⟨be, 0, none⟩) 0 0] rfl rfl 31 _ (Z0.out.below hb) rfl ux.szRob (ux.oneRob _ _ _ _) ?_; intro wz hz)
    have HB := Lib.hid (hz.on (B0.out.trans (hb.mono B0.out.size)) (Nat.le_refl _))
    have HO := Lib.hid (show OO rowNf wz w.heap.size wz.heap.size [be] (.slice (some ⟨be, 0, none⟩) 0 0) [] from ((ux.row_empty 85 nf (hz.keep hX (by have := Z0.out.lt; omega))).wide (by have := B0.out.size; omega)))
    (try simp only [Exit.inBlock, Exit.then])
    refine bodyPost_ret (v := .agg #[.int .i64 0, .slice (some ⟨be, 0, none⟩) 0 0]) ?_ rfl ?_
    · rw [results_cell1 rfl]
      exact stw.back hz.box Try.underlying31 rfl ux.szRob
    · rw [HE.out]; exact ⟨_, _, _, _, rfl, HO.out, HB.out⟩
set_option maxRecDepth 100000 in
set_option maxHeartbeats 4000000 in
theorem specNew (m : Int) (w : World) :
    Calls Try.prog 31 #[.int .i64 m] w (RrPost (new m) w) := by
  by_cases hm : 0 ≤ m ∧ m ≤ 4095
  · have H1 := Lib.hid (show decide (0 ≤ m ∧ m ≤ 4095) = true from decide_eq_true hm)
    have HE := Lib.hid (show new m = ⟨m, []⟩ by unfold new; rw [if_pos hm])
    clear hm
    go_enter Try.func31, Try.ntmps31
    go_wp2_with fail
    obtain ⟨w0, hW⟩ : ∃ w0, w.alloc (.cells #[.int .i64 0, .slice none 0 0] 31) = w0 := ⟨_, rfl⟩
    rw [hW]
    have B0 := Lib.hid (show Below w.heap.size w w0 by rw [← hW]; exact (Below.refl _ _).alloc (by simp <;> omega) _)
    have Z0 := Lib.hid (show Bx 31 w0 (w.heap.size) #[.int .i64 0, .slice none 0 0] by
        rw [← hW]
        have hh := Bx.made 31 w #[.int .i64 0, .slice none 0 0]
        exact hh)
    clear hW
    have LTZ := Lib.hid Z0.out.lt
    (with_reducible refine (l1R m 0 4095 true _ H1.out).mono ?_)
    rintro e wq ⟨rfl, rfl⟩
    go_wp2_with (first | (refine stw.list_store rfl 31 _ _ rfl (w.heap.size) #[.int .i64 m, .slice none 0 0] rfl rfl 31 _ Z0.out rfl ux.szRob (ux.oneRob _ _ _ _) ?_; intro wz1 hz))
    have B1 := Lib.hid (hz.on B0.out (by have hs0 := LTZ.out; first | omega | (simp <;> omega)))
    have Z1 := Lib.hid (hz.box)
    clear hz B0 Z0
    (try simp only [Exit.inBlock, Exit.then])
    refine bodyPost_ret (v := .agg #[.int .i64 m, .slice none 0 0]) ?_ rfl ?_
    · rw [results_cell1 rfl]
      exact stw.back Z1.out Try.underlying31 rfl ux.szRob
    · exact by rw [HE.out]; exact ⟨_, _, _, rfl, (ux.row_nil 85 nf _ (Nat.le_refl _)).rd, B1.out⟩
  · have H1 := Lib.hid (show decide (0 ≤ m ∧ m ≤ 4095) = false from decide_eq_false hm)
    have HE := Lib.hid (show new m = ⟨0, []⟩ by unfold new; rw [if_neg hm])
    clear hm
    go_enter Try.func31, Try.ntmps31
    go_wp2_with fail
    obtain ⟨w0, hW⟩ : ∃ w0, w.alloc (.cells #[.int .i64 0, .slice none 0 0] 31) = w0 := ⟨_, rfl⟩
    rw [hW]
    have B0 := Lib.hid (show Below w.heap.size w w0 by rw [← hW]; exact (Below.refl _ _).alloc (by simp <;> omega) _)
    have Z0 := Lib.hid (show Bx 31 w0 (w.heap.size) #[.int .i64 0, .slice none 0 0] by
        rw [← hW]
        have hh := Bx.made 31 w #[.int .i64 0, .slice none 0 0]
        exact hh)
    clear hW
    have LTZ := Lib.hid Z0.out.lt
    (with_reducible refine (l1R m 0 4095 false _ H1.out).mono ?_)
    rintro e wq ⟨rfl, rfl⟩
    go_wp2_with (first | (refine stw.list_store rfl 31 _ _ rfl (w.heap.size) #[.int .i64 0, .slice none 0 0] rfl rfl 31 _ Z0.out rfl ux.szRob (ux.oneRob _ _ _ _) ?_; intro wz1 hz))
    have B1 := Lib.hid (hz.on B0.out (by have hs0 := LTZ.out; first | omega | (simp <;> omega)))
    have Z1 := Lib.hid (hz.box)
    clear hz B0 Z0
    (try simp only [Exit.inBlock, Exit.then])
    refine bodyPost_ret (v := .agg #[.int .i64 0, .slice none 0 0]) ?_ rfl ?_
    · rw [results_cell1 rfl]
      exact stw.back Z1.out Try.underlying31 rfl ux.szRob
    · exact by rw [HE.out]; exact ⟨_, _, _, rfl, (ux.row_nil 85 nf _ (Nat.le_refl _)).rd, B1.out⟩
set_option maxRecDepth 100000 in
set_option maxHeartbeats 4000000 in
theorem implCp (s : Int) (xs : List Nf) (lo hi : Nat) (A : Option Addr) (n c : Nat) (w : World) (h : RR rowNf w lo hi (.slice A n c) xs) (hn : n ≤ 67108864) (hbd : ∀ x ∈ xs, x.Body.length ≤ 67108864) :
    Calls Try.prog 60 #[.agg #[.int .i64 s, .slice A n c]] w (RoPost ⟨s, xs⟩ w) := by
  have RW := Lib.hid h
  obtain ⟨hlR, hncR, hcmR⟩ := nf_len h
  have HL := Lib.hid hlR
  have LHR := Lib.hid (show hi ≤ w.heap.size from h.hi_)
  clear hlR h
  have HN := Lib.hid hn
  have HBD := Lib.hid hbd
  clear hn hbd
  obtain ⟨i0, hi0, hz0, hz1, hz2⟩ := info_parts infoNF
  have HZ := Lib.hid (And.intro hi0 (And.intro hz0 (And.intro hz1 hz2)))
  clear hi0 hz0 hz1 hz2
  go_enter Try.func60, Try.ntmps60
  go_upto_region 1 with fail
  obtain ⟨w0, hW⟩ : ∃ w0, (w.alloc (.cells #[.int .i64 s, .slice A n c] 31)).alloc (.cells #[.int .i64 0, .slice none 0 0] 31) = w0 := ⟨_, rfl⟩
  rw [hW]
  have B0 := Lib.hid (show Below w.heap.size w w0 by rw [← hW]; exact ((Below.refl _ _).alloc (by simp <;> omega) _).alloc (by simp <;> omega) _)
  have X0 := Lib.hid (show Bx 31 w0 (w.heap.size) #[.int .i64 s, .slice A n c] by
      rw [← hW]
      have hh := Bx.made 31 w #[.int .i64 s, .slice A n c]
      exact (hh.below (below_box _ _)))
  have Z0 := Lib.hid (show Bx 31 w0 (w.heap.size + 1) #[.int .i64 0, .slice none 0 0] by
      rw [← hW]
      have hh : Bx 31 ((w.alloc (.cells #[.int .i64 s, .slice A n c] 31)).alloc (.cells #[.int .i64 0, .slice none 0 0] 31)) (w.heap.size + 1) #[.int .i64 0, .slice none 0 0] := by have hh := Bx.made 31 (w.alloc (.cells #[.int .i64 s, .slice A n c] 31)) #[.int .i64 0, .slice none 0 0]; simpa using hh
      exact hh)
  have R0 := Lib.hid (show RR rowNf w0 lo hi (.slice A n c) xs by rw [← hW]; exact ((RW.out.below (below_box _ _)).below (below_box _ _)))
  clear hW
  have LTX := Lib.hid X0.out.lt
  have LTZ := Lib.hid Z0.out.lt
  obtain ⟨be, hbb⟩ : ∃ b, w0.heap.size = b := ⟨_, rfl⟩
  go_upto_region 2 with fail
  generalize hW : w0.alloc (.cells #[] 85) = w1
  have LE := Lib.hid (show w.heap.size ≤ be ∧ w.heap.size < be ∧ w.heap.size + 1 < be ∧ hi ≤ be by have h1 := B0.out.size; have h2X := X0.out.lt; have h2Z := Z0.out.lt; have h2R := R0.out.hi_; have h3 := hbb; omega)
  have E1 := Lib.hid (show Bx 85 w1 be #[] by rw [← hW, ← hbb]; exact Bx.made _ _ _)
  have hb : Below w0.heap.size w0 w1 := by rw [← hW]; exact below_box _ _
  (try rw [hbb])
  clear hW hbb
  have SS1 := Lib.hid hb.size
  have B1 := Lib.hid (B0.out.trans (hb.mono B0.out.size))
  have X1 := Lib.hid (X0.out.below hb)
  have Z1 := Lib.hid (Z0.out.below hb)
  have R1 := Lib.hid (R0.out.below hb)
  clear hb B0 X0 Z0 R0
  have LWE := Lib.hid E1.out.lt
  have HBE := Lib.hid (show be < w1.heap.size from E1.out.lt)
  have O1 := Lib.hid (show OO rowNf w1 be w1.heap.size [be] (.slice (some ⟨be, 0, none⟩) 0 0) [] from (ux.row_empty 85 nf E1.out).wide (Nat.le_refl _))
  clear E1
  have cX0 : w1.cell? ⟨w.heap.size, 0, none⟩ = some (.int .i64 s) := X1.out.cell 0
  have cX1 : w1.cell? ⟨w.heap.size, 1, none⟩ = some (.slice A n c) := X1.out.cell 1
  go_wp2_with fail
  clear cX0 cX1
  go_loopw [3, 10] (fun v0 v1 wr => ∃ (A1 : Option Addr) (k : Nat) (c1 : Nat) (f : List Nat), v0 = .slice A1 k c1 ∧ v1 = .int .i64 ((k : Int)) ∧ (k ≤ n) ∧ (w.heap.size + 1 < be ∧ be < wr.heap.size) ∧ Below w.heap.size w wr ∧ Bx 31 wr w.heap.size #[.int .i64 s, .slice A n c] ∧ Bx 31 wr (w.heap.size + 1) #[.int .i64 0, .slice none 0 0] ∧ RR rowNf wr lo hi (.slice A n c) xs ∧ OO rowNf wr be wr.heap.size f (.slice A1 k c1) (xs.take k)) (fun _ i _ => n - (intOf i).toNat)
  case atStart => exact ⟨(some ⟨be, 0, none⟩), 0, 0, [be], rfl, rfl, by omega, by have h1 := LE.out; have h2 := HBE.out; omega, B1.out, X1.out, Z1.out, R1.out, O1.out⟩
  case round =>
    obtain ⟨A1, k, c1, f, rfl, rfl, ghk, ghbe, gB2, gX2, gZ2, gR2, gO2⟩ := hrel
    have B2 := Lib.hid gB2
    have X2 := Lib.hid gX2
    have Z2 := Lib.hid gZ2
    have R2 := Lib.hid gR2
    have O2 := Lib.hid gO2
    have hk := Lib.hid ghk
    have hbe := Lib.hid ghbe
    clear gB2 gX2 gZ2 gR2 gO2 ghk ghbe
    have LUX2 := Lib.hid X2.out.lt
    have LUZ2 := Lib.hid Z2.out.lt
    have SBR2 := Lib.hid B2.out.size
    have hk9 := hk.out
    have hkN := HN.out
    by_cases hlt : k < n
    · have hlt2 : (k : Int) < n := by omega
      obtain ⟨g, off, x, u, hA, hy, hg1, hg2, hru, hxu⟩ := ux.row_at (R2.out : RR (row 85 nf) _ _ _ _ _) hlt
      obtain ⟨A0, n0, c0_, rfl, hb0⟩ := ux.nf_r hxu
      subst hA
      have k0 : wr.cell? ⟨g, off + k * 2, none⟩ = some (.int .i64 x.Seq) := hru 0 _ rfl
      have k1 : wr.cell? ⟨g, off + k * 2 + 1, none⟩ = some (.slice A0 n0 c0_) := hru 1 _ rfl
      have HY := Lib.hid hy
      have HN0 := Lib.hid (ux.rd_of hb0).len
      have hn0 := (ux.rd_of hb0).cap_
      have F2 := Lib.hid hb0
      clear hy hru hxu hb0 hg1 hg2
      have HBX := Lib.hid (HBD.out x (List.mem_of_getElem? HY.out))
      have cX0 : wr.cell? ⟨w.heap.size, 0, none⟩ = some (.int .i64 s) := X2.out.cell 0
      have cX1 : wr.cell? ⟨w.heap.size, 1, none⟩ = some (.slice (some ⟨g, off, none⟩) n c) := X2.out.cell 1
      obtain ⟨b3, hbb⟩ : ∃ b, wr.heap.size = b := ⟨_, rfl⟩
      go_upto_region 5 with fail
      generalize hW : wr.alloc (.cells #[.int .i64 x.Seq, .slice A0 n0 c0_] 85) = w3
      have LV := Lib.hid (show w.heap.size ≤ b3 ∧ w.heap.size < b3 ∧ w.heap.size + 1 < b3 ∧ hi ≤ b3 ∧ wr.heap.size ≤ b3 ∧ hi ≤ b3 by have h1 := B2.out.size; have h2X := X2.out.lt; have h2Z := Z2.out.lt; have h2R := R2.out.hi_; have h2O := O2.out.hi_; have h2F := F2.out.hi_; have h3 := hbb; omega)
      have V3 := Lib.hid (show Bx 85 w3 b3 #[.int .i64 x.Seq, .slice A0 n0 c0_] by rw [← hW, ← hbb]; exact Bx.made _ _ _)
      have hb : Below wr.heap.size wr w3 := by rw [← hW]; exact below_box _ _
      (try rw [hbb])
      clear hW hbb
      have SS3 := Lib.hid hb.size
      have B3 := Lib.hid (B2.out.trans (hb.mono B2.out.size))
      have X3 := Lib.hid (X2.out.below hb)
      have Z3 := Lib.hid (Z2.out.below hb)
      have R3 := Lib.hid (R2.out.below hb)
      have O3 := Lib.hid (O2.out.below hb)
      have F3 := Lib.hid (F2.out.below hb)
      clear hb B2 X2 Z2 R2 O2 F2
      have LWV := Lib.hid V3.out.lt
      clear k0 k1 cX0 cX1
      have HO0 := Lib.hid (show OO (row 85 nf) w3 0 w3.heap.size f (.slice A1 k c1) (xs.take k) from O3.out.wide (Nat.zero_le _))
      refine rgp.region_tailE (rgp.EA 11 reg.Bel (ux.ApU nf 85 w3.heap.size f A1 k c1 (xs.take k))) 12 31 [some [], some [], some [(1, 15)], some [], some [(3, 17)], some [], some [(5, 19)], some [(6, 20)], some [(4, 18), (7, 21)], some [(2, 16), (8, 22)], some [(9, 23)], some [(0, 14), (10, 24)], none] [(0, 14), (1, 15), (2, 16), (3, 17), (4, 18), (5, 19), (6, 20), (7, 21), (8, 22), (9, 23), (10, 24), (11, 25)]
        (ux.CU nf 85 w3.heap.size f A1 k c1 (xs.take k) w3)
        (rgp.RA 11 [rgp.is (.slice A1 k c1), rgp.is (.pointer (some ⟨b3, 0, none⟩)), rgp.is (.int .i64 x.Seq), rgp.is (.pointer (some ⟨b3, 1, none⟩)), rgp.is (.slice A0 n0 c0_), rgp.is (.pointer (some ⟨b3, 1, none⟩)), rgp.is (.slice A0 n0 c0_), rgp.is (.int .i64 ((n0 : Int))), ux.elU nf 85 w3.heap.size f A1 k c1 (xs.take k) ux.bytes (x.Body), ux.elU nf 85 w3.heap.size f A1 k c1 (xs.take k) nf (x), ux.oneU nf 85 w3.heap.size f A1 k c1 (xs.take k) (x), rgp.val fun _ => True] (ux.newU nf 85 w3.heap.size f k (xs.take k) (x)))
        (by kernel_rfl) rfl (by kernel_rfl) (by kernel_rfl) rfl
        (ux.cu_keep nf 85 w3.heap.size f A1 k c1 (xs.take k) 11 w3)
        (rgp.ra_keep (ux.newU_keep nf 85 w3.heap.size f k (xs.take k) (x))) (ux.cu_start nf 85 w3.heap.size f A1 k c1 (xs.take k) HO0.out) (by kernel_rfl) ⟨?_, ?_, ?_, ?_, ?_, ?_, ?_, ?_, ?_, ?_, ?_, ?_, trivial⟩ ?_
      · refine fun w8 hc  K hK => ?_
        (try simp only [Act.put, List.setIfInBounds_toArray, List.set_cons_zero, List.set_cons_succ])
        go_simp
        exact hK (.slice A1 k c1) _ (rgp.ra1 rfl rfl) (rgp.ea1 rfl (Below.refl _ _))
      · refine fun w8 hc  K hK => ?_
        (try simp only [Act.put, List.setIfInBounds_toArray, List.set_cons_zero, List.set_cons_succ])
        go_simp
        exact hK (.pointer (some ⟨b3, 0, none⟩)) _ (rgp.ra1 rfl rfl) (rgp.ea1 rfl (Below.refl _ _))
      · refine fun w8 hc v1 h1 K hK => ?_
        have h1 := rgp.ra1_out rfl h1
        obtain rfl : v1 = .pointer (some ⟨b3, 0, none⟩) := h1
        (try simp only [Act.put, List.setIfInBounds_toArray, List.set_cons_zero, List.set_cons_succ])
        have c0 := (ux.bx_ks V3.out hc.1 (fun hm => by have hlE := LE.out; have hlV := LV.out; have hs0 := LTX.out; have hs1 := LTZ.out; have hs2 := LHR.out; have hs3 := SS1.out; have hs4 := LWE.out; have hs5 := HBE.out; have hs6 := LUX2.out; have hs7 := LUZ2.out; have hs8 := SBR2.out; have hs9 := hbe.out; have hs10 := SS3.out; have hs11 := LWV.out; have h9 := O3.out.inn _ hm; omega)).cell 0
        go_simp
        exact hK (.int .i64 x.Seq) _ (rgp.ra1 rfl rfl) (rgp.ea1 rfl (Below.refl _ _))
      · refine fun w8 hc  K hK => ?_
        (try simp only [Act.put, List.setIfInBounds_toArray, List.set_cons_zero, List.set_cons_succ])
        go_simp
        exact hK (.pointer (some ⟨b3, 1, none⟩)) _ (rgp.ra1 rfl rfl) (rgp.ea1 rfl (Below.refl _ _))
      · refine fun w8 hc v3 h3 K hK => ?_
        have h3 := rgp.ra1_out rfl h3
        obtain rfl : v3 = .pointer (some ⟨b3, 1, none⟩) := h3
        (try simp only [Act.put, List.setIfInBounds_toArray, List.set_cons_zero, List.set_cons_succ])
        have c0 := (ux.bx_ks V3.out hc.1 (fun hm => by have hlE := LE.out; have hlV := LV.out; have hs0 := LTX.out; have hs1 := LTZ.out; have hs2 := LHR.out; have hs3 := SS1.out; have hs4 := LWE.out; have hs5 := HBE.out; have hs6 := LUX2.out; have hs7 := LUZ2.out; have hs8 := SBR2.out; have hs9 := hbe.out; have hs10 := SS3.out; have hs11 := LWV.out; have h9 := O3.out.inn _ hm; omega)).cell 1
        go_simp
        exact hK (.slice A0 n0 c0_) _ (rgp.ra1 rfl rfl) (rgp.ea1 rfl (Below.refl _ _))
      · refine fun w8 hc  K hK => ?_
        (try simp only [Act.put, List.setIfInBounds_toArray, List.set_cons_zero, List.set_cons_succ])
        go_simp
        exact hK (.pointer (some ⟨b3, 1, none⟩)) _ (rgp.ra1 rfl rfl) (rgp.ea1 rfl (Below.refl _ _))
      · refine fun w8 hc v5 h5 K hK => ?_
        have h5 := rgp.ra1_out rfl h5
        obtain rfl : v5 = .pointer (some ⟨b3, 1, none⟩) := h5
        (try simp only [Act.put, List.setIfInBounds_toArray, List.set_cons_zero, List.set_cons_succ])
        have c0 := (ux.bx_ks V3.out hc.1 (fun hm => by have hlE := LE.out; have hlV := LV.out; have hs0 := LTX.out; have hs1 := LTZ.out; have hs2 := LHR.out; have hs3 := SS1.out; have hs4 := LWE.out; have hs5 := HBE.out; have hs6 := LUX2.out; have hs7 := LUZ2.out; have hs8 := SBR2.out; have hs9 := hbe.out; have hs10 := SS3.out; have hs11 := LWV.out; have h9 := O3.out.inn _ hm; omega)).cell 1
        go_simp
        exact hK (.slice A0 n0 c0_) _ (rgp.ra1 rfl rfl) (rgp.ea1 rfl (Below.refl _ _))
      · refine fun w8 hc v6 h6 K hK => ?_
        have h6 := rgp.ra1_out rfl h6
        obtain rfl : v6 = .slice A0 n0 c0_ := h6
        (try simp only [Act.put, List.setIfInBounds_toArray, List.set_cons_zero, List.set_cons_succ])
        go_simp
        exact hK (.int .i64 ((n0 : Int))) _ (rgp.ra1 rfl rfl) (rgp.ea1 rfl (Below.refl _ _))
      · refine fun w8 hc v4 h4 v7 h7 K hK => ?_
        have h4 := rgp.ra1_out rfl h4
        obtain rfl : v4 = .slice A0 n0 c0_ := h4
        have h7 := rgp.ra1_out rfl h7
        obtain rfl : v7 = .int .i64 ((n0 : Int)) := h7
        (try simp only [Act.put, List.setIfInBounds_toArray, List.set_cons_zero, List.set_cons_succ])
        have hr8 := ux.rd_of (F3.out.ks hc.1 (fun b h1 h2 h3 => by have hlE := LE.out; have hlV := LV.out; have hs0 := LTX.out; have hs1 := LTZ.out; have hs2 := LHR.out; have hs3 := SS1.out; have hs4 := LWE.out; have hs5 := HBE.out; have hs6 := LUX2.out; have hs7 := LUZ2.out; have hs8 := SBR2.out; have hs9 := hbe.out; have hs10 := SS3.out; have hs11 := LWV.out; have h9 := O3.out.inn b h3; omega))
        have hcp8 := uvs.copyPart _ _ _ _ _ _ 0 n0 w8 hr8 (Nat.zero_le _) (Nat.le_refl _) (by have h1 := HBX.out; rw [HN0.out] at h1; omega)
        go_simp
        (with_reducible refine (show Calls Try.prog 89 #[.slice A0 n0 c0_, .int .i64 0, .int .i64 (n0 : Int)] w8 _ from hcp8).mono ?_)
        rintro e w3 ⟨C, m3, c3_, rfl, ho, hb⟩
        exact hK _ _ (rgp.ra1 rfl ⟨_, _, _, hc.2.hi_, by have hh := ux.num_of ho; rw [part_all HN0.out] at hh; exact hh⟩) (rgp.ea1 rfl hb)
      · refine fun w8 hc v2 h2 v8 h8 K hK => ?_
        have h2 := rgp.ra1_out rfl h2
        obtain rfl : v2 = .int .i64 x.Seq := h2
        have h8 := rgp.ra1_out rfl h8
        obtain ⟨fe8, lo8, hi8, hl8, ho8⟩ := h8
        obtain ⟨Ae8, ne8, ce8, rfl⟩ := ux.bytes_slo ho8.1
        (try simp only [Act.put, List.setIfInBounds_toArray, List.set_cons_zero, List.set_cons_succ])
        go_simp
        exact hK (ux.nfV x (.slice Ae8 ne8 ce8)) _ (rgp.ra1 rfl ⟨fe8, lo8, hi8, hl8, ux.nf_mk (x := x) ho8 (ux.bytes.nd ho8.1)⟩) (rgp.ea1 rfl (Below.refl _ _))
      · refine fun w8 hc v9 h9 K hK => ?_
        have h9 := rgp.ra1_out rfl h9
        obtain ⟨fe9, lo9, hi9, hl9, ho9⟩ := h9
        obtain ⟨Ae9, ne9, ce9, fz9, rfl, _, _, _⟩ := ux.nf_o ho9
        (try simp only [Act.put, List.setIfInBounds_toArray, List.set_cons_zero, List.set_cons_succ])
        go_simp
        exact hK (.slice (some ⟨w8.heap.size, 0, none⟩) 1 1) _ (rgp.ra1 rfl ⟨w8.heap.size, 1, ux.nfV x (.slice Ae9 ne9 ce9), fe9, lo9, hi9, rfl, hc.2.hi_, Bx.made _ _ _, hl9, ho9.below (bx.below_box _ _)⟩) (rgp.ea1 rfl (bx.below_box _ _))
      · refine fun w8 hc v0 h0 v10 h10 K hK => ?_
        have h0 := rgp.ra1_out rfl h0
        obtain rfl : v0 = .slice A1 k c1 := h0
        have h10 := rgp.ra1_out rfl h10
        obtain ⟨q10, cq10, u10, fe10, lo10, hi10, rfl, hq10, hX10, hl10, ho10⟩ := h10
        (try simp only [Act.put, List.setIfInBounds_toArray, List.set_cons_zero, List.set_cons_succ])
        rw [if_pos (by rfl)]
        refine ux.wp_push (S := nf) (T := 85) _ _ 29 rfl Try.underlying29 HZ.out.1 HZ.out.2.1 HZ.out.2.2.1 (by rw [HZ.out.2.2.2]; omega) rfl rfl rfl hc.2 (x) ho10 hl10 hX10 (by omega) ?_
        intro A4 c4 w4 hn4 hp4
        exact hK _ _ (rgp.ra2 hn4) (rgp.ea2 hp4)
      refine fun wg4 hc v0 h0 v1 h1 v2 h2 v3 h3 v4 h4 v5 h5 v6 h6 v7 h7 v8 h8 v9 h9 v10 h10 v11 h11 => ?_
      have h0 := rgp.ra1_out rfl h0
      obtain rfl : v0 = .slice A1 k c1 := h0
      have h1 := rgp.ra1_out rfl h1
      obtain rfl : v1 = .pointer (some ⟨b3, 0, none⟩) := h1
      have h2 := rgp.ra1_out rfl h2
      obtain rfl : v2 = .int .i64 x.Seq := h2
      have h3 := rgp.ra1_out rfl h3
      obtain rfl : v3 = .pointer (some ⟨b3, 1, none⟩) := h3
      have h4 := rgp.ra1_out rfl h4
      obtain rfl : v4 = .slice A0 n0 c0_ := h4
      have h5 := rgp.ra1_out rfl h5
      obtain rfl : v5 = .pointer (some ⟨b3, 1, none⟩) := h5
      have h6 := rgp.ra1_out rfl h6
      obtain rfl : v6 = .slice A0 n0 c0_ := h6
      have h7 := rgp.ra1_out rfl h7
      obtain rfl : v7 = .int .i64 ((n0 : Int)) := h7
      have h8 := rgp.ra1_out rfl h8
      obtain ⟨fe8, lo8, hi8, hl8, ho8⟩ := h8
      obtain ⟨Ae8, ne8, ce8, rfl⟩ := ux.bytes_slo ho8.1
      have h9 := rgp.ra1_out rfl h9
      obtain ⟨fe9, lo9, hi9, hl9, ho9⟩ := h9
      obtain ⟨Ae9, ne9, ce9, fz9, rfl, _, _, _⟩ := ux.nf_o ho9
      have h10 := rgp.ra1_out rfl h10
      obtain ⟨q10, cq10, u10, fe10, lo10, hi10, rfl, hq10, hX10, hl10, ho10⟩ := h10
      have h11 := rgp.ra2_out h11
      obtain ⟨A3, c3, f3, hi3, rfl, hO3, hf3⟩ := h11
      (try simp only [reg.Obs])
      (try simp only [Act.put, List.setIfInBounds_toArray, List.set_cons_zero, List.set_cons_succ])
      simp only [List.drop_succ_cons, List.drop_zero]
      have SS4 := Lib.hid hc.1.size
      have B4 := Lib.hid (B3.out.trans (ux.ks_bel hc.1 (fun b hb => by have hlE := LE.out; have hlV := LV.out; have hs0 := LTX.out; have hs1 := LTZ.out; have hs2 := LHR.out; have hs3 := SS1.out; have hs4 := LWE.out; have hs5 := HBE.out; have hs6 := LUX2.out; have hs7 := LUZ2.out; have hs8 := SBR2.out; have hs9 := hbe.out; have hs10 := SS3.out; have hs11 := LWV.out; have h9 := O3.out.inn b hb; omega) B3.out.size))
      have X4 := Lib.hid (ux.bx_ks X3.out hc.1 (fun hm => by have hlE := LE.out; have hlV := LV.out; have hs0 := LTX.out; have hs1 := LTZ.out; have hs2 := LHR.out; have hs3 := SS1.out; have hs4 := LWE.out; have hs5 := HBE.out; have hs6 := LUX2.out; have hs7 := LUZ2.out; have hs8 := SBR2.out; have hs9 := hbe.out; have hs10 := SS3.out; have hs11 := LWV.out; have h9 := O3.out.inn _ hm; omega))
      have Z4 := Lib.hid (ux.bx_ks Z3.out hc.1 (fun hm => by have hlE := LE.out; have hlV := LV.out; have hs0 := LTX.out; have hs1 := LTZ.out; have hs2 := LHR.out; have hs3 := SS1.out; have hs4 := LWE.out; have hs5 := HBE.out; have hs6 := LUX2.out; have hs7 := LUZ2.out; have hs8 := SBR2.out; have hs9 := hbe.out; have hs10 := SS3.out; have hs11 := LWV.out; have h9 := O3.out.inn _ hm; omega))
      have V4 := Lib.hid (ux.bx_ks V3.out hc.1 (fun hm => by have hlE := LE.out; have hlV := LV.out; have hs0 := LTX.out; have hs1 := LTZ.out; have hs2 := LHR.out; have hs3 := SS1.out; have hs4 := LWE.out; have hs5 := HBE.out; have hs6 := LUX2.out; have hs7 := LUZ2.out; have hs8 := SBR2.out; have hs9 := hbe.out; have hs10 := SS3.out; have hs11 := LWV.out; have h9 := O3.out.inn _ hm; omega))
      have R4 := Lib.hid (R3.out.ks hc.1 (fun b h1 h2 h3 => by have hlE := LE.out; have hlV := LV.out; have hs0 := LTX.out; have hs1 := LTZ.out; have hs2 := LHR.out; have hs3 := SS1.out; have hs4 := LWE.out; have hs5 := HBE.out; have hs6 := LUX2.out; have hs7 := LUZ2.out; have hs8 := SBR2.out; have hs9 := hbe.out; have hs10 := SS3.out; have hs11 := LWV.out; have h9 := O3.out.inn b h3; omega))
      have F4 := Lib.hid (F3.out.ks hc.1 (fun b h1 h2 h3 => by have hlE := LE.out; have hlV := LV.out; have hs0 := LTX.out; have hs1 := LTZ.out; have hs2 := LHR.out; have hs3 := SS1.out; have hs4 := LWE.out; have hs5 := HBE.out; have hs6 := LUX2.out; have hs7 := LUZ2.out; have hs8 := SBR2.out; have hs9 := hbe.out; have hs10 := SS3.out; have hs11 := LWV.out; have h9 := O3.out.inn b h3; omega))
      have HF3 := Lib.hid hf3
      have O4 := Lib.hid (show OO rowNf wg4 be wg4.heap.size f3 (.slice A3 (k + 1) c3) ((xs.take k) ++ [x]) from oo_narrow (hO3.wide (Nat.zero_le _)) (fun b hb => by have hlE := LE.out; have hlV := LV.out; have hs0 := LTX.out; have hs1 := LTZ.out; have hs2 := LHR.out; have hs3 := SS1.out; have hs4 := LWE.out; have hs5 := HBE.out; have hs6 := LUX2.out; have hs7 := LUZ2.out; have hs8 := SBR2.out; have hs9 := hbe.out; have hs10 := SS3.out; have hs11 := LWV.out; have h7 := hf3 b hb; rcases h7 with h7 | h7; exact (O3.out.inn b h7).1; omega))
      clear hO3 hf3 hc HO0 B3 X3 Z3 V3 R3 O3 F3
      have HT := Lib.hid (ux.take_snoc HY.out)
      go_wp2_with fail
      go_roundw
      case rel => exact ⟨A3, k + 1, c3, f3, rfl, by go_num, by omega, by have hlE := LE.out; have hlV := LV.out; have hs0 := LTX.out; have hs1 := LTZ.out; have hs2 := LHR.out; have hs3 := SS1.out; have hs4 := LWE.out; have hs5 := HBE.out; have hs6 := LUX2.out; have hs7 := LUZ2.out; have hs8 := SBR2.out; have hs9 := hbe.out; have hs10 := SS3.out; have hs11 := LWV.out; have hs12 := SS4.out; omega, B4.out, X4.out, Z4.out, R4.out, (by rw [HT.out]; exact O4.out)⟩
      case measure => simp [intOf]; omega
    · have hlt2 : ¬ (k : Int) < n := by omega
      obtain rfl : n = k := by omega
      have HF := Lib.hid (show xs.take n = xs from List.take_of_length_le (by rw [HL.out]; exact Nat.le_refl _))
      have cX0 : wr.cell? ⟨w.heap.size, 0, none⟩ = some (.int .i64 s) := X2.out.cell 0
      have cX1 : wr.cell? ⟨w.heap.size, 1, none⟩ = some (.slice A n c) := X2.out.cell 1
      go_wp2_with (first | (refine stw.list_store rfl 31 _ _ rfl (w.heap.size + 1) #[.int .i64 s, .slice A1 n c1] rfl rfl 31 _ Z2.out rfl ux.szRob (ux.oneRob _ _ _ _) ?_; intro wz3 hz))
      clear cX0 cX1
      have B3 := Lib.hid (hz.on B2.out (by have hlE := LE.out; have hs0 := LTX.out; have hs1 := LTZ.out; have hs2 := LHR.out; have hs3 := SS1.out; have hs4 := LWE.out; have hs5 := HBE.out; have hs6 := LUX2.out; have hs7 := LUZ2.out; have hs8 := SBR2.out; have hs9 := hbe.out; first | omega | (simp <;> omega)))
      have X3 := Lib.hid (hz.keep X2.out (by have hlE := LE.out; have hs0 := LTX.out; have hs1 := LTZ.out; have hs2 := LHR.out; have hs3 := SS1.out; have hs4 := LWE.out; have hs5 := HBE.out; have hs6 := LUX2.out; have hs7 := LUZ2.out; have hs8 := SBR2.out; have hs9 := hbe.out; first | omega | (simp <;> omega)))
      have Z3 := Lib.hid (hz.box)
      have R3 := Lib.hid (R2.out.same hz.below.size fun b h1 h2 => hz.other b (by have hlE := LE.out; have hs0 := LTX.out; have hs1 := LTZ.out; have hs2 := LHR.out; have hs3 := SS1.out; have hs4 := LWE.out; have hs5 := HBE.out; have hs6 := LUX2.out; have hs7 := LUZ2.out; have hs8 := SBR2.out; have hs9 := hbe.out; first | omega | (simp <;> omega)))
      have O3 := Lib.hid (O2.out.same hz.below.size fun b h1 h2 => hz.other b (by have hlE := LE.out; have hs0 := LTX.out; have hs1 := LTZ.out; have hs2 := LHR.out; have hs3 := SS1.out; have hs4 := LWE.out; have hs5 := HBE.out; have hs6 := LUX2.out; have hs7 := LUZ2.out; have hs8 := SBR2.out; have hs9 := hbe.out; first | omega | (simp <;> omega)))
      clear hz B2 X2 Z2 R2 O2
      (try simp only [Exit.inBlock, Exit.then])
      refine bodyPost_ret (v := .agg #[.int .i64 s, .slice A1 n c1]) ?_ rfl ?_
      · rw [results_cell1 rfl]
        exact stw.back Z3.out Try.underlying31 rfl ux.szRob
      · exact ⟨_, _, _, _, rfl, by rw [← HF.out]; exact O3.out.wide (by have hlE := LE.out; have hs0 := LTX.out; have hs1 := LTZ.out; have hs2 := LHR.out; have hs3 := SS1.out; have hs4 := LWE.out; have hs5 := HBE.out; have hs6 := LUX2.out; have hs7 := LUZ2.out; have hs8 := SBR2.out; have hs9 := hbe.out; omega), B3.out⟩
end Go.Proofs.Ytmmhleobgpgliaa.ro
end

section
namespace Go.Proofs.Ytmmhleobgpgliaa.ro
open Go.RowKit sl harn bx stw
set_option linter.unusedVariables false
open ux (Nf Rob RR OO row rowB rowNf nf rob)
open mrw (blkOf)
open bs (nsq sqd)
set_option linter.unusedSimpArgs false

/-- A block told by a term. -/
abbrev Wn (w : World) (b : Nat) (cells : Array Value) : Prop := Bx 78 w b cells
theorem Wn.same {w w' : World} {b : Nat} {cells : Array Value} (h : Wn w b cells) (hs : w.heap.size ≤ w'.heap.size) (hb : ∀ c, b ≤ c → c < b + 1 → w'.heap[c]? = w.heap[c]?) : Wn w' b cells := Bx.same h (hb b (Nat.le_refl _) (by omega))
theorem Wn.below {w w' : World} {b : Nat} {cells : Array Value} (h : Wn w b cells) (hb : Below w.heap.size w w') : Wn w' b cells := Bx.below h hb
theorem Wn.hi_ {w : World} {b : Nat} {cells : Array Value} (h : Wn w b cells) : b + 1 ≤ w.heap.size := Bx.lt h
theorem Wn.ks {w w' : World} {b : Nat} {cells : Array Value} {F : List Nat} (h : Wn w b cells) (hk : KS F w w') (hn : ∀ c, b ≤ c → c < b + 1 → c ∉ F) : Wn w' b cells := ux.bx_ks h hk (hn b (Nat.le_refl _) (by omega))
theorem szRv {t : St} {hd : Value} (h : t.ws.length = 16) : (Try.prog.info? 78).map (·.size) = some (vcs t hd).size := by rw [vcs_size h]; kernel_rfl
theorem vcs_one (t : St) (A : Option Addr) (n c : Nat) : (vcs t (.slice A n c)).all (·.oneCell') = true := by
  refine all_oneCell_toArray fun v hv => ?_
  rcases List.mem_cons.1 hv with rfl | hv
  · rfl
  · rcases List.mem_append.1 hv with hv | hv
    · exact wcs_one _ v hv
    · obtain rfl : v = .slice A n c := by simpa using hv
      rfl
theorem none16_len : none16.length = 16 := by unfold none16; rw [List.length_replicate]
theorem fill16 (s : Int) (xs : List Nf) : (fill s none16 xs).length = 16 := by rw [fill_len]; exact List.length_replicate
def vcs0 : Array Value := vcs ⟨0, none16, []⟩ (.slice none 0 0)
theorem okp_at {s : Int} {xs : List Nf} (h : okp s 0 xs = true) {k : Nat} {x : Nf} (hx : xs[k]? = some x) : (1 ≤ sqd s x.Seq ∧ sqd s x.Seq ≤ 15) ∧ x.Body.length ≤ 100 := okp_mem (by omega) h x (List.mem_of_getElem? hx)
/-- What reorderingOf hands back: the window's cells and an empty slice of the call's own. -/
def RgPost (r : Rob) (w : World) (e : Ending) (w' : World) : Prop := ∃ be, e = .returned (.agg (vcs (start r) (.slice (some ⟨be, 0, none⟩) 0 0))) ∧ Bx 22 w' be #[] ∧ w.heap.size ≤ be ∧ Below w.heap.size w w'
theorem rg_parts {r : Rob} {w : World} {e : Ending} {w' : World} (h : RgPost r w e w') : ∃ be, e = .returned (.agg (vcs (start r) (.slice (some ⟨be, 0, none⟩) 0 0))) ∧ Bx 22 w' be #[] ∧ w.heap.size ≤ be ∧ Below w.heap.size w w' := h
set_option maxRecDepth 100000 in
set_option maxHeartbeats 4000000 in
theorem implRo (s : Int) (xs : List Nf) (lo hi : Nat) (A : Option Addr) (n c : Nat) (w : World) (h : RR rowNf w lo hi (.slice A n c) xs) (hv : vr ⟨s, xs⟩ = true) :
    Calls Try.prog 61 #[.agg #[.int .i64 s, .slice A n c]] w (RgPost ⟨s, xs⟩ w) := by
  have RW := Lib.hid h
  obtain ⟨hlR, hncR, hcmR⟩ := nf_len h
  have HL := Lib.hid hlR
  have LHR := Lib.hid (show hi ≤ w.heap.size from h.hi_)
  clear hlR h
  have HV := Lib.hid (vr_parts hv).1
  clear hv
  go_enter Try.func61, Try.ntmps61
  go_upto_region 1 with fail
  change Code.wp _ _ _ _ ((w.alloc (.cells #[.int .i64 s, .slice A n c] 31)).alloc (.cells vcs0 78))
  obtain ⟨w0, hW⟩ : ∃ w0, (w.alloc (.cells #[.int .i64 s, .slice A n c] 31)).alloc (.cells vcs0 78) = w0 := ⟨_, rfl⟩
  rw [hW]
  have B0 := Lib.hid (show Below w.heap.size w w0 by rw [← hW]; exact ((Below.refl _ _).alloc (by simp <;> omega) _).alloc (by simp <;> omega) _)
  have X0 := Lib.hid (show Bx 31 w0 (w.heap.size) #[.int .i64 s, .slice A n c] by
      rw [← hW]
      have hh := Bx.made 31 w #[.int .i64 s, .slice A n c]
      exact (hh.below (below_box _ _)))
  have Z0 := Lib.hid (show Bx 78 w0 (w.heap.size + 1) vcs0 by
      rw [← hW]
      have hh : Bx 78 ((w.alloc (.cells #[.int .i64 s, .slice A n c] 31)).alloc (.cells vcs0 78)) (w.heap.size + 1) vcs0 := by have hh := Bx.made 78 (w.alloc (.cells #[.int .i64 s, .slice A n c] 31)) vcs0; simpa using hh
      exact hh)
  have R0 := Lib.hid (show RR rowNf w0 lo hi (.slice A n c) xs by rw [← hW]; exact ((RW.out.below (below_box _ _)).below (below_box _ _)))
  clear hW
  have LTX := Lib.hid X0.out.lt
  have LTZ := Lib.hid Z0.out.lt
  have Zq := Lib.hid (show Wn w0 (w.heap.size + 1) vcs0 from Z0.out)
  clear Z0
  have Z0 := Zq
  clear Zq
  have cX0 : w0.cell? ⟨w.heap.size, 0, none⟩ = some (.int .i64 s) := X0.out.cell 0
  have cX1 : w0.cell? ⟨w.heap.size, 1, none⟩ = some (.slice A n c) := X0.out.cell 1
  have hX0 : Bx 78 ((w0.alloc (.cells #[] 22)).alloc (.cells vcs0 78)) (w0.heap.size + 1) vcs0 := by have hh := Bx.made 78 (w0.alloc (.cells #[] 22)) vcs0; rwa [show (w0.alloc (.cells #[] 22)).heap.size = w0.heap.size + 1 by simp] at hh
  have hS0 : vcs0.size = ((vcs ⟨s, none16, []⟩ (.slice (some ⟨w0.heap.size, 0, none⟩) 0 0))).size := (vcs_size none16_len).trans (vcs_size (t := ⟨s, none16, []⟩) none16_len).symm
  have hS1 := szRv (t := ⟨s, none16, []⟩) (hd := .slice (some ⟨w0.heap.size, 0, none⟩) 0 0) none16_len
  have hO1 := vcs_one ⟨s, none16, []⟩ (some ⟨w0.heap.size, 0, none⟩) 0 0
  go_upto_region 2 with (refine stw.list_store rfl 78 _ _ rfl (w0.heap.size + 1) (vcs ⟨s, none16, []⟩ (.slice (some ⟨w0.heap.size, 0, none⟩) 0 0)) rfl rfl 78 _ hX0 hS0 hS1 hO1 ?_; intro wz hz)
  have hb := hz.on (((Below.refl w0.heap.size w0).alloc (Nat.le_refl _) (.cells #[] 22)).alloc (by simp) _) (by omega)
  have hE := hz.keep ((Bx.made 22 w0 #[]).below (below_box _ _)) (by omega)
  have hV := hz.box
  clear hz hX0 hS0 hS1 hO1
  obtain ⟨be, hbe⟩ : ∃ b, w0.heap.size = b := ⟨_, rfl⟩
  have LE := Lib.hid (show w.heap.size + 1 < be ∧ hi ≤ be ∧ be + 1 < wz.heap.size by have h1 := hV.lt; have h2 := LTZ.out; have h3 := LHR.out; omega)
  rw [hbe] at hE hV
  obtain ⟨w1, hwz⟩ : ∃ w5, wz = w5 := ⟨_, rfl⟩
  rw [hwz] at hb hE hV LE ⊢
  (try rw [hbe])
  clear hwz hbe cX0 cX1
  have SS1 := Lib.hid hb.size
  have B1 := Lib.hid (B0.out.trans (hb.mono B0.out.size))
  have X1 := Lib.hid (X0.out.below hb)
  have R1 := Lib.hid (R0.out.below hb)
  have Z1 := Lib.hid (Z0.out.below hb)
  clear hb B0 X0 R0 Z0
  have E1 := Lib.hid hE
  have V1 := Lib.hid (show Wn w1 (be + 1) (vcs ⟨s, none16, []⟩ (.slice (some ⟨be, 0, none⟩) 0 0)) from hV)
  clear hE hV
  have HBE := LE
  have cX0 : w1.cell? ⟨w.heap.size, 0, none⟩ = some (.int .i64 s) := X1.out.cell 0
  have cX1 : w1.cell? ⟨w.heap.size, 1, none⟩ = some (.slice A n c) := X1.out.cell 1
  go_wp2_with fail
  clear cX0 cX1
  go_loopw [13] (fun v0 wr => ∃ (k : Nat), v0 = .int .i64 ((k : Int)) ∧ (k ≤ n) ∧ (w.heap.size + 1 < be ∧ hi ≤ be ∧ be + 1 < wr.heap.size) ∧ Below w.heap.size w wr ∧ Bx 31 wr w.heap.size #[.int .i64 s, .slice A n c] ∧ Bx 22 wr be #[] ∧ RR rowNf wr lo hi (.slice A n c) xs ∧ Wn wr (w.heap.size + 1) vcs0 ∧ Wn wr (be + 1) (vcs ⟨s, fill s none16 (xs.take k), []⟩ (.slice (some ⟨be, 0, none⟩) 0 0))) (fun i _ => n - (intOf i).toNat)
  case atStart => exact ⟨0, rfl, by omega, LE.out, B1.out, X1.out, E1.out, R1.out, Z1.out, V1.out⟩
  case round =>
    obtain ⟨k, rfl, ghk, ghbe, gB2, gX2, gE2, gR2, gZ2, gV2⟩ := hrel
    have B2 := Lib.hid gB2
    have X2 := Lib.hid gX2
    have E2 := Lib.hid gE2
    have R2 := Lib.hid gR2
    have Z2 := Lib.hid gZ2
    have V2 := Lib.hid gV2
    have hk := Lib.hid ghk
    have hbe := Lib.hid ghbe
    clear gB2 gX2 gE2 gR2 gZ2 gV2 ghk ghbe
    have LUX2 := Lib.hid X2.out.lt
    have LUE2 := Lib.hid E2.out.lt
    have SBR2 := Lib.hid B2.out.size
    have hk9 := hk.out
    by_cases hlt : k < n
    · have hlt2 : (k : Int) < n := by omega
      obtain ⟨g, off, x, u, hA, hy, hg1, hg2, hru, hxu⟩ := ux.row_at (R2.out : RR (row 85 nf) _ _ _ _ _) hlt
      obtain ⟨A0, n0, c0_, rfl, hb0⟩ := ux.nf_r hxu
      subst hA
      have k0 : wr.cell? ⟨g, off + k * 2, none⟩ = some (.int .i64 x.Seq) := hru 0 _ rfl
      have k1 : wr.cell? ⟨g, off + k * 2 + 1, none⟩ = some (.slice A0 n0 c0_) := hru 1 _ rfl
      have HY := Lib.hid hy
      have HN0 := Lib.hid (ux.rd_of hb0).len
      have hn0 := (ux.rd_of hb0).cap_
      have F2 := Lib.hid hb0
      clear hy hru hxu hb0 hg1 hg2
      have HOK := Lib.hid (okp_at HV.out HY.out)
      obtain ⟨d, hd⟩ : ∃ d : Nat, sqd s x.Seq = d := ⟨(sqd s x.Seq).toNat, by have := HOK.out.1; omega⟩
      have HD := Lib.hid hd
      have hd15 : d ≤ 15 := by have := HOK.out.1; omega
      clear hd
      have cX0 : wr.cell? ⟨w.heap.size, 0, none⟩ = some (.int .i64 s) := X2.out.cell 0
      have cX1 : wr.cell? ⟨w.heap.size, 1, none⟩ = some (.slice (some ⟨g, off, none⟩) n c) := X2.out.cell 1
      obtain ⟨b3, hbb⟩ : ∃ b, wr.heap.size = b := ⟨_, rfl⟩
      go_upto_region 5 with fail
      generalize hW : wr.alloc (.cells #[.int .i64 x.Seq, .slice A0 n0 c0_] 85) = w3
      have LY := Lib.hid (show w.heap.size ≤ b3 ∧ w.heap.size < b3 ∧ be < b3 ∧ hi ≤ b3 ∧ (w.heap.size + 1 + 1) ≤ b3 ∧ (be + 1 + 1) ≤ b3 ∧ hi ≤ b3 by have h1 := B2.out.size; have h2X := X2.out.lt; have h2E := E2.out.lt; have h2R := R2.out.hi_; have h2Z := Z2.out.hi_; have h2V := V2.out.hi_; have h2F := F2.out.hi_; have h3 := hbb; omega)
      have Y3 := Lib.hid (show Bx 85 w3 b3 #[.int .i64 x.Seq, .slice A0 n0 c0_] by rw [← hW, ← hbb]; exact Bx.made _ _ _)
      have hb : Below wr.heap.size wr w3 := by rw [← hW]; exact below_box _ _
      (try rw [hbb])
      clear hW hbb
      have SS3 := Lib.hid hb.size
      have B3 := Lib.hid (B2.out.trans (hb.mono B2.out.size))
      have X3 := Lib.hid (X2.out.below hb)
      have E3 := Lib.hid (E2.out.below hb)
      have R3 := Lib.hid (R2.out.below hb)
      have Z3 := Lib.hid (Z2.out.below hb)
      have V3 := Lib.hid (V2.out.below hb)
      have F3 := Lib.hid (F2.out.below hb)
      clear hb B2 X2 E2 R2 Z2 V2 F2
      have LWY := Lib.hid Y3.out.lt
      clear k0 k1 cX0 cX1
      refine reg.region_tail reg.Bel 7 27 [some [], some [(0, 17)], some [], some [(2, 19)], some [(1, 18), (3, 20)], some [], some [(5, 22)], none] [(0, 17), (1, 18), (2, 19), (3, 20), (4, 21), (5, 22), (6, 23)]
        (fun w' => Below w.heap.size w w' ∧ Bx 31 w' (w.heap.size) #[.int .i64 s, .slice (some ⟨g, off, none⟩) n c] ∧ Bx 22 w' (be) #[] ∧ Bx 85 w' (b3) #[.int .i64 x.Seq, .slice A0 n0 c0_] ∧ RR rowNf w' lo hi (.slice (some ⟨g, off, none⟩) n c) xs ∧ Wn w' (w.heap.size + 1) vcs0 ∧ Wn w' (be + 1) (vcs ⟨s, fill s none16 (xs.take k), []⟩ (.slice (some ⟨be, 0, none⟩) 0 0)) ∧ RR ux.bytes w' lo hi (.slice A0 n0 c0_) x.Body ∧ True)
        (reg.rl [reg.is (.pointer (some ⟨w.heap.size, 0, none⟩)), reg.is (.int .i64 s), reg.is (.pointer (some ⟨b3, 0, none⟩)), reg.is (.int .i64 x.Seq), reg.is (.int .i64 ((d : Int))), reg.is (.pointer (some ⟨b3, 1, none⟩)), reg.is (.slice A0 n0 c0_), reg.free])
        (by kernel_rfl) rfl (by kernel_rfl) (by kernel_rfl) rfl
        (fun w1 w2 hc hb => ⟨hc.1.trans (hb.mono hc.1.size), hc.2.1.below hb, hc.2.2.1.below hb, hc.2.2.2.1.below hb, hc.2.2.2.2.1.below hb, hc.2.2.2.2.2.1.below hb, hc.2.2.2.2.2.2.1.below hb, hc.2.2.2.2.2.2.2.1.below hb, trivial⟩) (reg.rl_keep _) (⟨own.below_drew B3.out, X3.out.same rfl, E3.out.same rfl, Y3.out.same rfl, R3.out.same (Nat.le_refl _) (fun _ _ _ => rfl), Z3.out.same (Nat.le_refl _) (fun _ _ _ => rfl), V3.out.same (Nat.le_refl _) (fun _ _ _ => rfl), F3.out.same (Nat.le_refl _) (fun _ _ _ => rfl), trivial⟩) (by kernel_rfl) ⟨?_, ?_, ?_, ?_, ?_, ?_, ?_, trivial⟩ ?_
      · refine fun w8 hc  K hK => ?_
        (try simp only [Act.put, List.setIfInBounds_toArray, List.set_cons_zero, List.set_cons_succ])
        go_simp
        exact hK (.pointer (some ⟨w.heap.size, 0, none⟩)) _ rfl (Below.refl _ _)
      · refine fun w8 hc v0 h0 K hK => ?_
        obtain rfl : v0 = .pointer (some ⟨w.heap.size, 0, none⟩) := h0
        (try simp only [Act.put, List.setIfInBounds_toArray, List.set_cons_zero, List.set_cons_succ])
        have c0 : w8.cell? ⟨w.heap.size, 0, none⟩ = some (.int .i64 s) := hc.2.1.cell 0
        go_simp
        exact hK (.int .i64 s) _ rfl (Below.refl _ _)
      · refine fun w8 hc  K hK => ?_
        (try simp only [Act.put, List.setIfInBounds_toArray, List.set_cons_zero, List.set_cons_succ])
        go_simp
        exact hK (.pointer (some ⟨b3, 0, none⟩)) _ rfl (Below.refl _ _)
      · refine fun w8 hc v2 h2 K hK => ?_
        obtain rfl : v2 = .pointer (some ⟨b3, 0, none⟩) := h2
        (try simp only [Act.put, List.setIfInBounds_toArray, List.set_cons_zero, List.set_cons_succ])
        have c0 : w8.cell? ⟨b3, 0, none⟩ = some (.int .i64 x.Seq) := hc.2.2.2.1.cell 0
        go_simp
        exact hK (.int .i64 x.Seq) _ rfl (Below.refl _ _)
      · refine fun w8 hc v1 h1 v3 h3 K hK => ?_
        obtain rfl : v1 = .int .i64 s := h1
        obtain rfl : v3 = .int .i64 x.Seq := h3
        (try simp only [Act.put, List.setIfInBounds_toArray, List.set_cons_zero, List.set_cons_succ])
        go_simp
        (with_reducible refine (bs.implSd s x.Seq _).mono ?_)
        rw [HD.out]
        rintro e w3 ⟨rfl, rfl⟩
        exact hK _ _ rfl (Below.refl _ _)
      · refine fun w8 hc  K hK => ?_
        (try simp only [Act.put, List.setIfInBounds_toArray, List.set_cons_zero, List.set_cons_succ])
        go_simp
        exact hK (.pointer (some ⟨b3, 1, none⟩)) _ rfl (Below.refl _ _)
      · refine fun w8 hc v5 h5 K hK => ?_
        obtain rfl : v5 = .pointer (some ⟨b3, 1, none⟩) := h5
        (try simp only [Act.put, List.setIfInBounds_toArray, List.set_cons_zero, List.set_cons_succ])
        have c0 : w8.cell? ⟨b3, 1, none⟩ = some (.slice A0 n0 c0_) := hc.2.2.2.1.cell 1
        go_simp
        exact hK (.slice A0 n0 c0_) _ rfl (Below.refl _ _)
      refine fun wg4 hc v0 h0 v1 h1 v2 h2 v3 h3 v4 h4 v5 h5 v6 h6 => ?_
      obtain rfl : v0 = .pointer (some ⟨w.heap.size, 0, none⟩) := h0
      obtain rfl : v1 = .int .i64 s := h1
      obtain rfl : v2 = .pointer (some ⟨b3, 0, none⟩) := h2
      obtain rfl : v3 = .int .i64 x.Seq := h3
      obtain rfl : v4 = .int .i64 ((d : Int)) := h4
      obtain rfl : v5 = .pointer (some ⟨b3, 1, none⟩) := h5
      obtain rfl : v6 = .slice A0 n0 c0_ := h6
      (try simp only [reg.Obs])
      (try simp only [Act.put, List.setIfInBounds_toArray, List.set_cons_zero, List.set_cons_succ])
      simp only [List.drop_succ_cons, List.drop_zero]
      have B4 := Lib.hid hc.1
      have X4 := Lib.hid hc.2.1
      have E4 := Lib.hid hc.2.2.1
      have Y4 := Lib.hid hc.2.2.2.1
      have R4 := Lib.hid hc.2.2.2.2.1
      have Z4 := Lib.hid hc.2.2.2.2.2.1
      have V4 := Lib.hid hc.2.2.2.2.2.2.1
      have F4 := Lib.hid hc.2.2.2.2.2.2.2.1
      clear hc B3 X3 E3 Y3 R3 Z3 V3 F3
      go_wp2_with fail
      (with_reducible refine (keep ⟨s, fill s none16 (xs.take k), []⟩ (.slice (some ⟨be, 0, none⟩) 0 0) d x.Body lo hi A0 n0 c0_ (be + 1) _ V4.out (fill16 _ _) (by omega) (ux.rd_of F4.out)).mono ?_)
      rintro e w5 ⟨rfl, hX, hk⟩
      have hX : Wn w5 (be + 1) (vcs ⟨s, fill s none16 (xs.take (k + 1)), []⟩ (.slice (some ⟨be, 0, none⟩) 0 0)) := by rw [fill_take s none16 HY.out, HD.out, Int.toNat_natCast]; exact hX
      have SS5 := Lib.hid hk.size
      have B5 := Lib.hid (B4.out.trans (ux.ks_bel hk (fun b hb => by have h9 := List.mem_singleton.1 hb; have hlY := LY.out; have hs0 := LTX.out; have hs1 := LTZ.out; have hs2 := LHR.out; have hs3 := SS1.out; have hs4 := LE.out; have hs5 := LUX2.out; have hs6 := LUE2.out; have hs7 := SBR2.out; have hs8 := hbe.out; have hs9 := SS3.out; have hs10 := LWY.out; omega) B4.out.size))
      have X5 := Lib.hid (ux.bx_ks X4.out hk (fun hm => by have h9 := List.mem_singleton.1 hm; have hlY := LY.out; have hs0 := LTX.out; have hs1 := LTZ.out; have hs2 := LHR.out; have hs3 := SS1.out; have hs4 := LE.out; have hs5 := LUX2.out; have hs6 := LUE2.out; have hs7 := SBR2.out; have hs8 := hbe.out; have hs9 := SS3.out; have hs10 := LWY.out; omega))
      have E5 := Lib.hid (ux.bx_ks E4.out hk (fun hm => by have h9 := List.mem_singleton.1 hm; have hlY := LY.out; have hs0 := LTX.out; have hs1 := LTZ.out; have hs2 := LHR.out; have hs3 := SS1.out; have hs4 := LE.out; have hs5 := LUX2.out; have hs6 := LUE2.out; have hs7 := SBR2.out; have hs8 := hbe.out; have hs9 := SS3.out; have hs10 := LWY.out; omega))
      have Y5 := Lib.hid (ux.bx_ks Y4.out hk (fun hm => by have h9 := List.mem_singleton.1 hm; have hlY := LY.out; have hs0 := LTX.out; have hs1 := LTZ.out; have hs2 := LHR.out; have hs3 := SS1.out; have hs4 := LE.out; have hs5 := LUX2.out; have hs6 := LUE2.out; have hs7 := SBR2.out; have hs8 := hbe.out; have hs9 := SS3.out; have hs10 := LWY.out; omega))
      have R5 := Lib.hid (R4.out.ks hk (fun b h1 h2 h3 => by have h9 := List.mem_singleton.1 h3; have hlY := LY.out; have hs0 := LTX.out; have hs1 := LTZ.out; have hs2 := LHR.out; have hs3 := SS1.out; have hs4 := LE.out; have hs5 := LUX2.out; have hs6 := LUE2.out; have hs7 := SBR2.out; have hs8 := hbe.out; have hs9 := SS3.out; have hs10 := LWY.out; omega))
      have Z5 := Lib.hid (Z4.out.ks hk (fun b h1 h2 h3 => by have h9 := List.mem_singleton.1 h3; have hlY := LY.out; have hs0 := LTX.out; have hs1 := LTZ.out; have hs2 := LHR.out; have hs3 := SS1.out; have hs4 := LE.out; have hs5 := LUX2.out; have hs6 := LUE2.out; have hs7 := SBR2.out; have hs8 := hbe.out; have hs9 := SS3.out; have hs10 := LWY.out; omega))
      have V5 := Lib.hid (show Wn w5 (be + 1) (vcs ⟨s, fill s none16 (xs.take (k + 1)), []⟩ (.slice (some ⟨be, 0, none⟩) 0 0)) from hX)
      have F5 := Lib.hid (F4.out.ks hk (fun b h1 h2 h3 => by have h9 := List.mem_singleton.1 h3; have hlY := LY.out; have hs0 := LTX.out; have hs1 := LTZ.out; have hs2 := LHR.out; have hs3 := SS1.out; have hs4 := LE.out; have hs5 := LUX2.out; have hs6 := LUE2.out; have hs7 := SBR2.out; have hs8 := hbe.out; have hs9 := SS3.out; have hs10 := LWY.out; omega))
      clear hk hX B4 X4 E4 Y4 R4 Z4 V4 F4
      go_wp2_with fail
      go_roundw
      case rel => exact ⟨k + 1, by go_num, by omega, by have h7 := V5.out.hi_; have hlY := LY.out; have hs0 := LTX.out; have hs1 := LTZ.out; have hs2 := LHR.out; have hs3 := SS1.out; have hs4 := LE.out; have hs5 := LUX2.out; have hs6 := LUE2.out; have hs7 := SBR2.out; have hs8 := hbe.out; have hs9 := SS3.out; have hs10 := LWY.out; have hs11 := SS5.out; omega, B5.out, X5.out, E5.out, R5.out, Z5.out, V5.out⟩
      case measure => simp [intOf]; omega
    · have hlt2 : ¬ (k : Int) < n := by omega
      obtain rfl : n = k := by omega
      have HF := Lib.hid (show xs.take n = xs from List.take_of_length_le (by rw [HL.out]; exact Nat.le_refl _))
      have VE := Lib.hid (show Wn wr (be + 1) (vcs (start ⟨s, xs⟩) (.slice (some ⟨be, 0, none⟩) 0 0)) from by have hh := V2.out; rw [HF.out] at hh; exact hh)
      have H16 := Lib.hid (show (start ⟨s, xs⟩).ws.length = 16 from by show (fill _ _ _).length = 16; rw [fill_len]; exact List.length_replicate)
      have HSZ := Lib.hid (show vcs0.size = (vcs (start ⟨s, xs⟩) (.slice (some ⟨be, 0, none⟩) 0 0)).size by rw [vcs_size H16.out]; rfl)
      go_wp2_with (first | (refine stw.list_load rfl 78 _ rfl (be + 1) rfl 78 _ VE.out Try.underlying78 rfl (szRv H16.out) ?_) | (refine stw.list_store rfl 78 _ _ rfl (w.heap.size + 1) (vcs (start ⟨s, xs⟩) (.slice (some ⟨be, 0, none⟩) 0 0)) rfl rfl 78 _ Z2.out HSZ.out (szRv H16.out) (vcs_one _ _ _ _) ?_; intro wz hz))
      have HB := Lib.hid (hz.on B2.out (by omega))
      have HE := Lib.hid (hz.keep E2.out (by have hs0 := LTX.out; have hs1 := LTZ.out; have hs2 := LHR.out; have hs3 := SS1.out; have hs4 := LE.out; have hs5 := LUX2.out; have hs6 := LUE2.out; have hs7 := SBR2.out; have hs8 := hbe.out; omega))
      (try simp only [Exit.inBlock, Exit.then])
      refine bodyPost_ret (v := .agg (vcs (start ⟨s, xs⟩) (.slice (some ⟨be, 0, none⟩) 0 0))) ?_ rfl ?_
      · rw [results_cell1 rfl]
        exact stw.back hz.box Try.underlying78 rfl (szRv H16.out)
      · exact ⟨be, rfl, HE.out, by have hs0 := LTX.out; have hs1 := LTZ.out; have hs2 := LHR.out; have hs3 := SS1.out; have hs4 := LE.out; have hs5 := LUX2.out; have hs6 := LUE2.out; have hs7 := SBR2.out; have hs8 := hbe.out; omega, HB.out⟩
end Go.Proofs.Ytmmhleobgpgliaa.ro
end
