/- Merged texts of this seat. Qc1: CountCategory and NextMessage of both sides, the search by an order. Condition: none. | Qc2: IsValidMessage, IsValidQueue, NextMessage of both sides. Condition: none. | Qh1: The harness over messages and queues: sizes, copies, comparison, marks. Condition: sizes up to 2^26. | Qh2: The harness over queues: copy, comparison, marks. Condition: sizes up to 2^26. | Qcf: Marks of messages, with one more message kept beside. Condition: sizes up to 2^26. | Drk: Blocks, cursors and draws: small laws whatever the struct. Condition: none. | Rgp: A region that draws its order, in which one operation appends an element onto a row of the call's own, and that a chain of operations ends. Condition: the region's form. | Mrd: An element removed from a row of the call's own; cuts of a slice of structs. Condition: none. | Rgk: A region that draws its order and stores whole variables whose places are known, in whatever order the stores come: what each operation may do to the world, what is right of its value and stays so. Condition: none. | Rgf: Regions that draw their order, each operation with a relation of its own, told in a list: what is right of each value and stays so under what the others may do. Condition: the region's form. | Rgu: Regions that draw their order, with what holds of the world as long as one operation is not done. Condition: the region's form. | Mrf: Two appends behind one another: an empty row gets the first part of a row, then its last part. Condition: together at most 2^30 elements. | Enc: Varints as lists of numbers: the encoding, the decoding, and that each undoes the other. Condition: none (no program). -/
import Derived.Deep.Cut
import Derived.Laws.MakeOwn
import Derived.Test.YtjmenbpalihnnaaG1
import Derived.Test.YtjmenbpalihnnaaG2
section
namespace Go.Proofs.Ytjmenbpalihnnaa.mq
open Go.RowKit sl harn bx mrw
set_option linter.unusedVariables false
set_option linter.unusedSimpArgs false

set_option maxRecDepth 100000 in
set_option maxHeartbeats 4000000 in
theorem implCc (x : Int) (ms : List Msg) (d : Int) (A : Option Addr) (n cap lo hi : Nat) (w : World) (h : Rq msg w lo hi A n cap ms) :
    Calls Try.prog 21 #[qV A n cap d, .int .i64 x] w (NPost (cnt x ms n) w) := by
  have hc := h.cap_
  have HQ := Lib.hid h
  clear h
  have HX := Lib.hid (Bx.made 26 w #[.slice A n cap, .int .i64 d])
  go_enter Try.func21, Try.ntmps21
  go_wp2_with fail
  go_loopw [5, 11] (fun c i wr => ∃ k m : Nat, i = .int .i64 k ∧ c = .int .i64 m ∧ k ≤ n ∧ m = cnt x ms k ∧ Below w.heap.size w wr ∧ Bx 26 wr w.heap.size #[.slice A n cap, .int .i64 d]) (fun _ i _ => n - (intOf i).toNat)
  case atStart => exact ⟨0, 0, rfl, rfl, by omega, rfl, below_box _ _, HX.out⟩
  case round =>
    obtain ⟨k, m, rfl, rfl, hk, hm, hb, hx⟩ := hrel
    have HM := Lib.hid hm
    have HB := Lib.hid hb
    have HX := Lib.hid hx
    have hml : m ≤ k := by rw [hm]; exact cnt_le x ms k
    have HR := Lib.hid (HQ.out.below hb)
    have q0 : wr.cell? ⟨w.heap.size, 0, none⟩ = some (.slice A n cap) := hx.cell 0
    clear hm hb hx
    by_cases hlt : k < n
    · obtain ⟨b, off, y, hA, hy, h1, h2, A', n', c', hd, c0, c1, c2, c3⟩ := at_ HR.out hlt
      have HY := Lib.hid (getD_of hy)
      have HD := Lib.hid hd
      clear hy hd
      subst hA
      have hlt2 : (k : Int) < n := by omega
      by_cases hxy : y.2.1 = x
      · have he : (y.2.1 == x) = true := by simpa using hxy
        go_wp2_with fail
        go_roundw
        case rel => exact ⟨k + 1, m + 1, by go_num, by go_num, by omega, by rw [cnt, HY.out, if_pos hxy, HM.out], HB.out.alloc HB.out.size _, HX.out.below (below_box _ _)⟩
        case measure => simp [intOf]; omega
      · have he : (y.2.1 == x) = false := by simpa using hxy
        go_wp2_with fail
        go_roundw
        case rel => exact ⟨k + 1, m, by go_num, rfl, by omega, by rw [cnt, HY.out, if_neg hxy, HM.out], HB.out.alloc HB.out.size _, HX.out.below (below_box _ _)⟩
        case measure => simp [intOf]; omega
    · have hlt2 : ¬ (k : Int) < n := by omega
      go_wp2_with fail
      go_ret
      obtain rfl : k = n := by omega
      exact ⟨by rw [HM.out]; rfl, HB.out⟩
theorem quiet_nilc {P : Program} {C : World → Prop} {a : Act} {o : Oper} {K : Act → Prop} (x : Operand) (h : o.op = .nilCheck x) (T : TypeId) (v : Value) (nm : String) (hx : a.eval x = .func (.method nm) #[.iface T v] #[])
    (hn : ∀ w, (nilAhead (P.types.size + Made.depth) T v nm).run P w = .ok (some false) w) (hk : K (a.put o.dst (.func (.method nm) #[.iface T v] #[]))) : o.quiet P a C K := by
  refine ⟨_, fun w _ => ?_, hk⟩
  unfold Oper.quietAt Oper.quietUpon execOp
  simp only [h, hx]
  simp [Sem.run_bind, hn]
theorem quiet_inv {P : Program} {C : World → Prop} {a : Act} {o : Oper} {K : Act → Prop} (r p q : Operand) (nm : String) (ts : Array TypeId) (h : o.op = .call { callee := .invoke r nm, args := #[p, q], argTypes := ts }) (T : TypeId) (rv pv qv : Value)
    (hr : a.eval r = .iface T rv) (hp : a.eval p = pv) (hq : a.eval q = qv) (f : FuncId) (args : Array Value) (v : Value) (hi : ∀ w, (invoke (.fn (.method nm) #[]) #[.iface T rv, pv, qv]).run P w = .ok (.enter f args) w)
    (hc : ∀ w, C w → Calls P f args w fun e w' => e = .returned v ∧ C w') (hk : K (a.put o.dst v)) : o.quiet P a C K := by
  refine ⟨v, fun w hw => ?_, hk⟩
  unfold Oper.quietAt Oper.quietUpon execOp
  simp only [h, resolve, Sem.run_bind, Sem.run_pure, Result.andThen_ok, List.map_toArray, List.map_cons, List.map_nil, hr, hp, hq]
  have e : (#[(.iface T rv : Value)] ++ #[pv, qv] : Array Value) = #[.iface T rv, pv, qv] := rfl
  rw [e, hi]
  exact ⟨rfl, hc w hw⟩
theorem nc_at {base : World} {P : Program} {f : FuncId} {args : Array Value} {v : Value} (h : ∀ m : Af base, Calls P f args m.w fun e w' => e = .returned v ∧ Below m.w.heap.size m.w w') : ∀ w, (∃ n : Af base, w = n.w) → Calls P f args w fun e w' => e = .returned v ∧ ∃ n : Af base, w' = n.w :=
  fun w hw => by
    obtain ⟨n, rfl⟩ := hw
    exact Af.call (h n)
set_option maxRecDepth 100000 in
set_option maxHeartbeats 4000000 in
theorem prefT (x y : Msg) (A : Option Addr) (n c : Nat) (A' : Option Addr) (n' c' : Nat) (w : World) :
    Calls Try.prog 131 #[.agg #[], mV x A n c, mV y A' n' c'] w (BPost (gt x.2.1 y.2.1) w) := by
  go_enter Try.func131, Try.ntmps131
  go_wp2_with fail
  go_ret
  refine ⟨by unfold gt; rfl, ?_⟩
  (repeat' (first | exact Below.refl _ _ | refine Below.alloc ?_ (by simp <;> omega) _))
set_option maxRecDepth 100000 in
set_option maxHeartbeats 4000000 in
theorem prefD (x y : Msg) (A : Option Addr) (n c : Nat) (A' : Option Addr) (n' c' : Nat) (w : World) :
    Calls Try.prog 130 #[.agg #[], mV x A n c, mV y A' n' c'] w (BPost (le x.2.1 y.2.1) w) := by
  go_enter Try.func130, Try.ntmps130
  go_wp2_with fail
  go_ret
  refine ⟨by unfold le; rfl, ?_⟩
  (repeat' (first | exact Below.refl _ _ | refine Below.alloc ?_ (by simp <;> omega) _))
set_option maxRecDepth 100000 in
set_option maxHeartbeats 4000000 in
theorem chosenT (ms : List Msg) (A : Option Addr) (n cap lo hi : Nat) (w : World) (h : Rq msg w lo hi A n cap ms) :
    Calls Try.prog 66 #[.slice A n cap, .iface 89 (.agg #[])] w (NPost (bst gt ms n) w) := by
  have hc := h.cap_
  have HQ := Lib.hid h
  clear h
  go_enter Try.func66, Try.ntmps66
  go_wp2_with fail
  go_loopw [5, 10] (fun c i wr => ∃ (k : Nat) (z : Int), i = .int .i64 k ∧ c = .int .i64 z ∧ k ≤ n ∧ z = bst gt ms k ∧ Below w.heap.size w wr) (fun _ i _ => n - (intOf i).toNat)
  case atStart => exact ⟨0, -1, rfl, rfl, by omega, rfl, Below.refl _ _⟩
  case round =>
    obtain ⟨k, z, rfl, rfl, hk, hz, hb⟩ := hrel
    have HZ := Lib.hid hz
    have HB := Lib.hid hb
    have HR := Lib.hid (HQ.out.below hb)
    have hrg := bst_range gt ms k
    rw [← hz] at hrg
    clear hz hb
    by_cases hlt : k < n
    · obtain ⟨b, off, y, hA, hy, h1, h2, A', n', c', hd, c0, c1, c2, c3⟩ := at_ HR.out hlt
      have HY := Lib.hid (getD_of hy)
      have HD := Lib.hid hd
      clear hy hd
      subst hA
      have hlt2 : (k : Int) < n := by omega
      go_upto_region 5 with fail
      obtain ⟨w1, hW⟩ : ∃ w1, wr.alloc (.cells #[.int .i64 y.1, .int .i64 y.2.1, .int .i64 y.2.2.1, .slice A' n' c'] 28) = w1 := ⟨_, rfl⟩
      rw [hW]
      have X1 := Lib.hid (show Bx 28 w1 wr.heap.size #[.int .i64 y.1, .int .i64 y.2.1, .int .i64 y.2.2.1, .slice A' n' c'] by rw [← hW]; exact Bx.made _ _ _)
      have B1 := Lib.hid (show Below wr.heap.size wr w1 by rw [← hW]; exact below_box _ _)
      have BW := Lib.hid (HB.out.trans (B1.out.mono HB.out.size))
      have R1 := Lib.hid (HR.out.below B1.out)
      clear hW c0 c1 c2 c3
      by_cases hneg : z < 0
      · have hng : decide (z < 0) = true := decide_eq_true hneg
        refine region_after (by kernel_rfl) (by kernel_rfl) ?_
        repeat (go_big_quiet_step (fail))
        refine wpQuiet_nil ?_
        intro _ hw'
        obtain ⟨nq, hw''⟩ := hw'
        subst hw''
        have BQ := Lib.hid (BW.out.trans (nq.below.mono BW.out.size))
        obtain ⟨w5, hw5⟩ : ∃ w5, nq.w = w5 := ⟨_, rfl⟩
        rw [hw5] at BQ
        (try rw [hw5])
        go_wp2_with fail
        go_roundw
        case rel => exact ⟨k + 1, k, by go_num, rfl, by omega, by rw [bst, if_pos (by rw [← HZ.out]; exact hneg)], BQ.out⟩
        case measure => simp [intOf]; omega
      · have hng : decide (z < 0) = false := decide_eq_false hneg
        obtain ⟨z, rfl⟩ : ∃ u : Nat, z = (u : Int) := ⟨z.toNat, by omega⟩
        have hzl : z < n := by omega
        obtain ⟨b2, off2, y2, hA2, hy2, g1, g2, A2, n2, e2, hd2, k0, k1, k2, k3⟩ := at_ R1.out hzl
        injection hA2 with hA2
        injection hA2 with hA2 hA3
        subst hA2 hA3
        have HY2 := Lib.hid (getD_of hy2)
        clear hy2 hd2
        have d0 : ∀ m : Af w1, m.w.cell? ⟨b, off + z * 4, none⟩ = some (.int .i64 y2.1) := fun m => by rw [m.below.cell (World.block_lt_of_cell? _ _ k0)]; exact k0
        have d1 : ∀ m : Af w1, m.w.cell? ⟨b, off + z * 4 + 1, none⟩ = some (.int .i64 y2.2.1) := fun m => by rw [m.below.cell (World.block_lt_of_cell? _ _ k1)]; exact k1
        have d2 : ∀ m : Af w1, m.w.cell? ⟨b, off + z * 4 + 2, none⟩ = some (.int .i64 y2.2.2.1) := fun m => by rw [m.below.cell (World.block_lt_of_cell? _ _ k2)]; exact k2
        have d3 : ∀ m : Af w1, m.w.cell? ⟨b, off + z * 4 + 3, none⟩ = some (.slice A2 n2 e2) := fun m => by rw [m.below.cell (World.block_lt_of_cell? _ _ k3)]; exact k3
        have x0 : ∀ m : Af w1, m.w.cell? ⟨wr.heap.size, 0, none⟩ = some (.int .i64 y.1) := fun m => (Af.cells X1.out m).cell 0
        have x1 : ∀ m : Af w1, m.w.cell? ⟨wr.heap.size, 1, none⟩ = some (.int .i64 y.2.1) := fun m => (Af.cells X1.out m).cell 1
        have x2 : ∀ m : Af w1, m.w.cell? ⟨wr.heap.size, 2, none⟩ = some (.int .i64 y.2.2.1) := fun m => (Af.cells X1.out m).cell 2
        have x3 : ∀ m : Af w1, m.w.cell? ⟨wr.heap.size, 3, none⟩ = some (.slice A' n' c') := fun m => (Af.cells X1.out m).cell 3
        clear k0 k1 k2 k3
        have hzl2 : (z : Int) < n := by omega
        obtain ⟨v, hv⟩ : ∃ v, gt y.2.1 y2.2.1 = v := ⟨_, rfl⟩
        have HV := Lib.hid hv
        have hna := Lib.hid (fun W => by kernel_rfl : ∀ W : World, (nilAhead (Try.prog.types.size + Made.depth) 89 (.agg #[]) "loop.example/g00511/impl.prefers").run Try.prog W = .ok (some false) W)
        have hinv : ∀ W : World, (invoke (.fn (.method "loop.example/g00511/impl.prefers") #[]) #[.iface 89 (.agg #[]), mV y A' n' c', mV y2 A2 n2 e2]).run Try.prog W = .ok (.enter 131 #[.agg #[], mV y A' n' c', mV y2 A2 n2 e2]) W := fun W => by kernel_rfl
        have q0 := Lib.hid (fun m => by have hh := prefT y y2 A' n' c' A2 n2 e2 m.w; rw [hv] at hh; exact hh : ∀ m : Af w1, Calls Try.prog 131 #[.agg #[], mV y A' n' c', mV y2 A2 n2 e2] m.w fun e w' => e = .returned (.bool v) ∧ Below m.w.heap.size m.w w')
        clear hv
        refine region_after (by kernel_rfl) (by kernel_rfl) ?_
        repeat (first
          | (go_big_quiet_want; refine quiet_nilc _ rfl 89 _ _ rfl hna.out ?_; simp only [Act.put, List.setIfInBounds_toArray, List.set_cons_zero, List.set_cons_succ]; go_big_quiet_on)
          | (go_big_quiet_want; refine quiet_inv _ _ _ _ _ rfl 89 (.agg #[]) (mV y A' n' c') (mV y2 A2 n2 e2) rfl rfl rfl 131 _ (.bool v) hinv (nc_at q0.out) ?_; simp only [Act.put, List.setIfInBounds_toArray, List.set_cons_zero, List.set_cons_succ]; go_big_quiet_on)
          | (go_big_quiet_step (fail)))
        refine wpQuiet_nil ?_
        intro _ hw'
        obtain ⟨nq, hw''⟩ := hw'
        subst hw''
        have BQ := Lib.hid (BW.out.trans (nq.below.mono BW.out.size))
        obtain ⟨w5, hw5⟩ : ∃ w5, nq.w = w5 := ⟨_, rfl⟩
        rw [hw5] at BQ
        (try rw [hw5])
        clear d0 d1 d2 d3 x0 x1 x2 x3 q0 hinv hna
        cases v with
        | true =>
          go_wp2_with fail
          go_roundw
          case rel => exact ⟨k + 1, k, by go_num, rfl, by omega, by rw [bst, ← HZ.out, if_neg hneg, Int.toNat_natCast, HY.out, HY2.out, HV.out, if_pos rfl], BQ.out⟩
          case measure => simp [intOf]; omega
        | false =>
          go_wp2_with fail
          go_roundw
          case rel => exact ⟨k + 1, z, by go_num, rfl, by omega, by rw [bst, ← HZ.out, if_neg hneg, Int.toNat_natCast, HY.out, HY2.out, HV.out, if_neg (by decide)], BQ.out⟩
          case measure => simp [intOf]; omega
    · have hlt2 : ¬ (k : Int) < n := by omega
      go_wp2_with fail
      go_ret
      obtain rfl : k = n := by omega
      exact ⟨by rw [HZ.out]; rfl, HB.out⟩
set_option maxRecDepth 100000 in
set_option maxHeartbeats 4000000 in
theorem chosenD (ms : List Msg) (A : Option Addr) (n cap lo hi : Nat) (w : World) (h : Rq msg w lo hi A n cap ms) :
    Calls Try.prog 66 #[.slice A n cap, .iface 86 (.agg #[])] w (NPost (bst le ms n) w) := by
  have hc := h.cap_
  have HQ := Lib.hid h
  clear h
  go_enter Try.func66, Try.ntmps66
  go_wp2_with fail
  go_loopw [5, 10] (fun c i wr => ∃ (k : Nat) (z : Int), i = .int .i64 k ∧ c = .int .i64 z ∧ k ≤ n ∧ z = bst le ms k ∧ Below w.heap.size w wr) (fun _ i _ => n - (intOf i).toNat)
  case atStart => exact ⟨0, -1, rfl, rfl, by omega, rfl, Below.refl _ _⟩
  case round =>
    obtain ⟨k, z, rfl, rfl, hk, hz, hb⟩ := hrel
    have HZ := Lib.hid hz
    have HB := Lib.hid hb
    have HR := Lib.hid (HQ.out.below hb)
    have hrg := bst_range le ms k
    rw [← hz] at hrg
    clear hz hb
    by_cases hlt : k < n
    · obtain ⟨b, off, y, hA, hy, h1, h2, A', n', c', hd, c0, c1, c2, c3⟩ := at_ HR.out hlt
      have HY := Lib.hid (getD_of hy)
      have HD := Lib.hid hd
      clear hy hd
      subst hA
      have hlt2 : (k : Int) < n := by omega
      go_upto_region 5 with fail
      obtain ⟨w1, hW⟩ : ∃ w1, wr.alloc (.cells #[.int .i64 y.1, .int .i64 y.2.1, .int .i64 y.2.2.1, .slice A' n' c'] 28) = w1 := ⟨_, rfl⟩
      rw [hW]
      have X1 := Lib.hid (show Bx 28 w1 wr.heap.size #[.int .i64 y.1, .int .i64 y.2.1, .int .i64 y.2.2.1, .slice A' n' c'] by rw [← hW]; exact Bx.made _ _ _)
      have B1 := Lib.hid (show Below wr.heap.size wr w1 by rw [← hW]; exact below_box _ _)
      have BW := Lib.hid (HB.out.trans (B1.out.mono HB.out.size))
      have R1 := Lib.hid (HR.out.below B1.out)
      clear hW c0 c1 c2 c3
      by_cases hneg : z < 0
      · have hng : decide (z < 0) = true := decide_eq_true hneg
        refine region_after (by kernel_rfl) (by kernel_rfl) ?_
        repeat (go_big_quiet_step (fail))
        refine wpQuiet_nil ?_
        intro _ hw'
        obtain ⟨nq, hw''⟩ := hw'
        subst hw''
        have BQ := Lib.hid (BW.out.trans (nq.below.mono BW.out.size))
        obtain ⟨w5, hw5⟩ : ∃ w5, nq.w = w5 := ⟨_, rfl⟩
        rw [hw5] at BQ
        (try rw [hw5])
        go_wp2_with fail
        go_roundw
        case rel => exact ⟨k + 1, k, by go_num, rfl, by omega, by rw [bst, if_pos (by rw [← HZ.out]; exact hneg)], BQ.out⟩
        case measure => simp [intOf]; omega
      · have hng : decide (z < 0) = false := decide_eq_false hneg
        obtain ⟨z, rfl⟩ : ∃ u : Nat, z = (u : Int) := ⟨z.toNat, by omega⟩
        have hzl : z < n := by omega
        obtain ⟨b2, off2, y2, hA2, hy2, g1, g2, A2, n2, e2, hd2, k0, k1, k2, k3⟩ := at_ R1.out hzl
        injection hA2 with hA2
        injection hA2 with hA2 hA3
        subst hA2 hA3
        have HY2 := Lib.hid (getD_of hy2)
        clear hy2 hd2
        have d0 : ∀ m : Af w1, m.w.cell? ⟨b, off + z * 4, none⟩ = some (.int .i64 y2.1) := fun m => by rw [m.below.cell (World.block_lt_of_cell? _ _ k0)]; exact k0
        have d1 : ∀ m : Af w1, m.w.cell? ⟨b, off + z * 4 + 1, none⟩ = some (.int .i64 y2.2.1) := fun m => by rw [m.below.cell (World.block_lt_of_cell? _ _ k1)]; exact k1
        have d2 : ∀ m : Af w1, m.w.cell? ⟨b, off + z * 4 + 2, none⟩ = some (.int .i64 y2.2.2.1) := fun m => by rw [m.below.cell (World.block_lt_of_cell? _ _ k2)]; exact k2
        have d3 : ∀ m : Af w1, m.w.cell? ⟨b, off + z * 4 + 3, none⟩ = some (.slice A2 n2 e2) := fun m => by rw [m.below.cell (World.block_lt_of_cell? _ _ k3)]; exact k3
        have x0 : ∀ m : Af w1, m.w.cell? ⟨wr.heap.size, 0, none⟩ = some (.int .i64 y.1) := fun m => (Af.cells X1.out m).cell 0
        have x1 : ∀ m : Af w1, m.w.cell? ⟨wr.heap.size, 1, none⟩ = some (.int .i64 y.2.1) := fun m => (Af.cells X1.out m).cell 1
        have x2 : ∀ m : Af w1, m.w.cell? ⟨wr.heap.size, 2, none⟩ = some (.int .i64 y.2.2.1) := fun m => (Af.cells X1.out m).cell 2
        have x3 : ∀ m : Af w1, m.w.cell? ⟨wr.heap.size, 3, none⟩ = some (.slice A' n' c') := fun m => (Af.cells X1.out m).cell 3
        clear k0 k1 k2 k3
        have hzl2 : (z : Int) < n := by omega
        obtain ⟨v, hv⟩ : ∃ v, le y.2.1 y2.2.1 = v := ⟨_, rfl⟩
        have HV := Lib.hid hv
        have hna := Lib.hid (fun W => by kernel_rfl : ∀ W : World, (nilAhead (Try.prog.types.size + Made.depth) 86 (.agg #[]) "loop.example/g00511/impl.prefers").run Try.prog W = .ok (some false) W)
        have hinv : ∀ W : World, (invoke (.fn (.method "loop.example/g00511/impl.prefers") #[]) #[.iface 86 (.agg #[]), mV y A' n' c', mV y2 A2 n2 e2]).run Try.prog W = .ok (.enter 130 #[.agg #[], mV y A' n' c', mV y2 A2 n2 e2]) W := fun W => by kernel_rfl
        have q0 := Lib.hid (fun m => by have hh := prefD y y2 A' n' c' A2 n2 e2 m.w; rw [hv] at hh; exact hh : ∀ m : Af w1, Calls Try.prog 130 #[.agg #[], mV y A' n' c', mV y2 A2 n2 e2] m.w fun e w' => e = .returned (.bool v) ∧ Below m.w.heap.size m.w w')
        clear hv
        refine region_after (by kernel_rfl) (by kernel_rfl) ?_
        repeat (first
          | (go_big_quiet_want; refine quiet_nilc _ rfl 86 _ _ rfl hna.out ?_; simp only [Act.put, List.setIfInBounds_toArray, List.set_cons_zero, List.set_cons_succ]; go_big_quiet_on)
          | (go_big_quiet_want; refine quiet_inv _ _ _ _ _ rfl 86 (.agg #[]) (mV y A' n' c') (mV y2 A2 n2 e2) rfl rfl rfl 130 _ (.bool v) hinv (nc_at q0.out) ?_; simp only [Act.put, List.setIfInBounds_toArray, List.set_cons_zero, List.set_cons_succ]; go_big_quiet_on)
          | (go_big_quiet_step (fail)))
        refine wpQuiet_nil ?_
        intro _ hw'
        obtain ⟨nq, hw''⟩ := hw'
        subst hw''
        have BQ := Lib.hid (BW.out.trans (nq.below.mono BW.out.size))
        obtain ⟨w5, hw5⟩ : ∃ w5, nq.w = w5 := ⟨_, rfl⟩
        rw [hw5] at BQ
        (try rw [hw5])
        clear d0 d1 d2 d3 x0 x1 x2 x3 q0 hinv hna
        cases v with
        | true =>
          go_wp2_with fail
          go_roundw
          case rel => exact ⟨k + 1, k, by go_num, rfl, by omega, by rw [bst, ← HZ.out, if_neg hneg, Int.toNat_natCast, HY.out, HY2.out, HV.out, if_pos rfl], BQ.out⟩
          case measure => simp [intOf]; omega
        | false =>
          go_wp2_with fail
          go_roundw
          case rel => exact ⟨k + 1, z, by go_num, rfl, by omega, by rw [bst, ← HZ.out, if_neg hneg, Int.toNat_natCast, HY.out, HY2.out, HV.out, if_neg (by decide)], BQ.out⟩
          case measure => simp [intOf]; omega
    · have hlt2 : ¬ (k : Int) < n := by omega
      go_wp2_with fail
      go_ret
      obtain rfl : k = n := by omega
      exact ⟨by rw [HZ.out]; rfl, HB.out⟩
end Go.Proofs.Ytjmenbpalihnnaa.mq
end

section
namespace Go.Proofs.Ytjmenbpalihnnaa.mq
open Go.RowKit sl harn bx mrw
set_option linter.unusedVariables false
set_option linter.unusedSimpArgs false

theorem isStn (k : Int) (v : Bool) (w : World) (h : decide (0 ≤ k ∧ k ≤ 15) = v) :
    Calls Try.prog 111 #[.int .i64 k] w fun e w' => e = .returned (.bool v) ∧ w = w' := by
  have H := Lib.hid h
  clear h
  go_enter Try.func111, Try.ntmps111
  go_wp2_with fail
  (with_reducible refine (inR _ _ _ _ _ H.out).mono ?_)
  rintro e w1 ⟨rfl, rfl⟩
  go_wp2_with fail
  go_ret
  exact ⟨rfl, rfl⟩
theorem isCat (k : Int) (v : Bool) (w : World) (h : decide (0 ≤ k ∧ k ≤ 3) = v) :
    Calls Try.prog 102 #[.int .i64 k] w fun e w' => e = .returned (.bool v) ∧ w = w' := by
  have H := Lib.hid h
  clear h
  go_enter Try.func102, Try.ntmps102
  go_wp2_with fail
  (with_reducible refine (inR _ _ _ _ _ H.out).mono ?_)
  rintro e w1 ⟨rfl, rfl⟩
  go_wp2_with fail
  go_ret
  exact ⟨rfl, rfl⟩
theorem isDst (k : Int) (v : Bool) (w : World) (h : (decide (0 ≤ k ∧ k ≤ 15) || k == 63) = v) :
    Calls Try.prog 101 #[.int .i64 k] w fun e w' => e = .returned (.bool v) ∧ w = w' := by
  obtain ⟨u, hu⟩ : ∃ u, decide (0 ≤ k ∧ k ≤ 15) = u := ⟨_, rfl⟩
  rw [hu] at h
  have H := Lib.hid h
  have HU := Lib.hid hu
  clear h hu
  go_enter Try.func101, Try.ntmps101
  go_wp2_with fail
  (with_reducible refine (isStn _ _ _ HU.out).mono ?_)
  rintro e w1 ⟨rfl, rfl⟩
  cases u with
  | true =>
    go_wp2_with fail
    go_ret
    exact ⟨by rw [← H.out]; rfl, rfl⟩
  | false =>
    go_wp2_with fail
    go_ret
    exact ⟨by rw [← H.out, Bool.false_or]; rfl, rfl⟩
set_option maxRecDepth 100000 in
set_option maxHeartbeats 4000000 in
theorem implVm (x : Msg) (A : Option Addr) (n c : Nat) (hz : x.2.2.2.length = n) (w : World) :
    Calls Try.prog 63 #[mV x A n c] w (BPost (vm x) w) := by
  obtain ⟨v0, h0⟩ : ∃ v, (decide (0 ≤ x.1 ∧ x.1 ≤ 15) || x.1 == 63) = v := ⟨_, rfl⟩
  obtain ⟨v1, h1⟩ : ∃ v, decide (0 ≤ x.2.1 ∧ x.2.1 ≤ 3) = v := ⟨_, rfl⟩
  obtain ⟨v2, h2⟩ : ∃ v, decide (0 ≤ x.2.2.1 ∧ x.2.2.1 ≤ 1000000000000) = v := ⟨_, rfl⟩
  obtain ⟨v3, h3⟩ : ∃ v, decide ((n : Int) ≤ 100) = v := ⟨_, rfl⟩
  have HV := Lib.hid (show vm x = (v0 && (v1 && (v2 && v3))) by unfold vm; rw [h0, h1, h2, hz, h3])
  have H0 := Lib.hid h0
  have H1 := Lib.hid h1
  have H2 := Lib.hid h2
  have H3 := Lib.hid h3
  have HB := Lib.hid (below_box w (.cells #[.int .i64 x.1, .int .i64 x.2.1, .int .i64 x.2.2.1, .slice A n c] 28))
  clear h0 h1 h2 h3 hz
  go_enter Try.func63, Try.ntmps63
  go_wp2_with fail
  (with_reducible refine (isDst _ _ _ H0.out).mono ?_)
  rintro e wq ⟨rfl, rfl⟩
  cases v0 with
  | true =>
    go_wp2_with fail
    (with_reducible refine (isCat _ _ _ H1.out).mono ?_)
    rintro e wq ⟨rfl, rfl⟩
    cases v1 with
    | true =>
      go_wp2_with fail
      (with_reducible refine (inR _ _ _ _ _ H2.out).mono ?_)
      rintro e wq ⟨rfl, rfl⟩
      cases v2 with
      | true =>
        go_wp2_with fail
        go_ret
        refine ⟨?_, HB.out⟩
        rw [HV.out, ← H3.out]; rfl
      | false =>
        go_wp2_with fail
        go_ret
        exact ⟨by rw [HV.out]; rfl, HB.out⟩
    | false =>
      go_wp2_with fail
      go_ret
      exact ⟨by rw [HV.out]; rfl, HB.out⟩
  | false =>
    go_wp2_with fail
    go_ret
    exact ⟨by rw [HV.out]; rfl, HB.out⟩
set_option maxRecDepth 100000 in
set_option maxHeartbeats 4000000 in
theorem specVm (x : Msg) (A : Option Addr) (n c : Nat) (hz : x.2.2.2.length = n) (w : World) :
    Calls Try.prog 16 #[mV x A n c] w (BPost (vm x) w) := by
  obtain ⟨v0, h0⟩ : ∃ v, (decide (0 ≤ x.1 ∧ x.1 ≤ 15) || x.1 == 63) = v := ⟨_, rfl⟩
  obtain ⟨v1, h1⟩ : ∃ v, decide (0 ≤ x.2.1 ∧ x.2.1 ≤ 3) = v := ⟨_, rfl⟩
  obtain ⟨v2, h2⟩ : ∃ v, decide (0 ≤ x.2.2.1 ∧ x.2.2.1 ≤ 1000000000000) = v := ⟨_, rfl⟩
  obtain ⟨v3, h3⟩ : ∃ v, decide ((n : Int) ≤ 100) = v := ⟨_, rfl⟩
  have HV := Lib.hid (show vm x = (v0 && (v1 && (v2 && v3))) by unfold vm; rw [h0, h1, h2, hz, h3])
  obtain ⟨u, hu⟩ : ∃ u, decide (0 ≤ x.1 ∧ x.1 ≤ 15) = u := ⟨_, rfl⟩
  rw [hu] at h0
  have HU := Lib.hid hu
  clear hu
  have H0 := Lib.hid h0
  have H1 := Lib.hid h1
  have H2 := Lib.hid h2
  have H3 := Lib.hid h3
  have HB := Lib.hid (below_box w (.cells #[.int .i64 x.1, .int .i64 x.2.1, .int .i64 x.2.2.1, .slice A n c] 28))
  clear h0 h1 h2 h3 hz
  go_enter Try.func16, Try.ntmps16
  go_wp2_with fail
  (with_reducible refine (l1R _ _ _ _ _ HU.out).mono ?_)
  rintro e wq ⟨rfl, rfl⟩
  cases u with
  | true =>
    have e0 : v0 = true := H0.out.symm
    subst e0
    go_wp2_with fail
    (with_reducible refine (l1R _ _ _ _ _ H1.out).mono ?_)
    rintro e wq ⟨rfl, rfl⟩
    cases v1 with
    | true =>
      go_wp2_with fail
      (with_reducible refine (l1R _ _ _ _ _ H2.out).mono ?_)
      rintro e wq ⟨rfl, rfl⟩
      cases v2 with
      | true =>
        go_wp2_with fail
        go_ret
        refine ⟨?_, HB.out⟩
        rw [HV.out, ← H3.out]; rfl
      | false =>
        go_wp2_with fail
        go_ret
        exact ⟨by rw [HV.out]; rfl, HB.out⟩
    | false =>
      go_wp2_with fail
      go_ret
      exact ⟨by rw [HV.out]; rfl, HB.out⟩
  | false =>
    have e0 : (x.1 == 63) = v0 := by rw [← H0.out, Bool.false_or]
    cases v0 with
    | true =>
      go_wp2_with fail
      (with_reducible refine (l1R _ _ _ _ _ H1.out).mono ?_)
      rintro e wq ⟨rfl, rfl⟩
      cases v1 with
      | true =>
        go_wp2_with fail
        (with_reducible refine (l1R _ _ _ _ _ H2.out).mono ?_)
        rintro e wq ⟨rfl, rfl⟩
        cases v2 with
        | true =>
          go_wp2_with fail
          go_ret
          refine ⟨?_, HB.out⟩
          rw [HV.out, ← H3.out]; rfl
        | false =>
          go_wp2_with fail
          go_ret
          exact ⟨by rw [HV.out]; rfl, HB.out⟩
      | false =>
        go_wp2_with fail
        go_ret
        exact ⟨by rw [HV.out]; rfl, HB.out⟩
    | false =>
      go_wp2_with fail
      go_ret
      exact ⟨by rw [HV.out]; rfl, HB.out⟩
theorem all_vm {ms : List Msg} {n : Nat} (hl : ms.length = n) (h : ∀ j, j < n → vm (ms.getD j zm) = true) : ms.all vm = true := by
  rw [List.all_eq_true]
  intro x hx
  obtain ⟨j, hj, e⟩ := List.getElem_of_mem hx
  have := h j (by omega)
  rw [List.getD_eq_getElem?_getD, List.getElem?_eq_getElem hj] at this
  simpa [e] using this
theorem not_vm {ms : List Msg} {n j : Nat} (hl : ms.length = n) (hj : j < n) (h : vm (ms.getD j zm) = false) : ms.all vm = false := by
  rw [List.all_eq_false]
  refine ⟨ms[j], List.getElem_mem (by omega), ?_⟩
  rw [List.getD_eq_getElem?_getD, List.getElem?_eq_getElem (show j < ms.length by omega)] at h
  simpa using h
set_option maxRecDepth 100000 in
set_option maxHeartbeats 4000000 in
theorem implVq (ms : List Msg) (d : Int) (A : Option Addr) (n cap lo hi : Nat) (w : World) (h : Rq msg w lo hi A n cap ms) :
    Calls Try.prog 18 #[qV A n cap d] w (BPost (vq ms d) w) := by
  have hc := h.cap_
  have HQ := Lib.hid h
  clear h
  have HL := Lib.hid HQ.out.len
  have HX := Lib.hid (Bx.made 26 w #[.slice A n cap, .int .i64 d])
  obtain ⟨u, hu⟩ : ∃ u, decide ((n : Int) ≤ 12) = u := ⟨_, rfl⟩
  obtain ⟨v, hv⟩ : ∃ v, decide (0 ≤ d) = v := ⟨_, rfl⟩
  have HV := Lib.hid (show vq ms d = (u && (v && ms.all vm)) by unfold vq; rw [← hu, ← hv, HL.out]; congr 1; exact decide_eq_decide.2 (by omega))
  have HU := Lib.hid hu
  have HW := Lib.hid hv
  clear hu hv
  go_enter Try.func18, Try.ntmps18
  go_upto_region 1 with fail
  have q0 : (w.alloc (.cells #[.slice A n cap, .int .i64 d] 26)).cell? ⟨w.heap.size, 0, none⟩ = some (.slice A n cap) := HX.out.cell 0
  have q1 : (w.alloc (.cells #[.slice A n cap, .int .i64 d] 26)).cell? ⟨w.heap.size, 1, none⟩ = some (.int .i64 d) := HX.out.cell 1
  have HB0 := Lib.hid (below_box w (.cells #[.slice A n cap, .int .i64 d] 26))
  cases u with
  | true =>
    have e0 : decide ((12 : Int) < n) = false := by have := of_decide_eq_true HU.out; exact decide_eq_false (by omega)
    cases v with
    | true =>
      have e1 : decide (d < 0) = false := by have := of_decide_eq_true HW.out; exact decide_eq_false (by omega)
      go_wp2_with fail
      go_loopw [17] (fun i wr => ∃ k : Nat, i = .int .i64 k ∧ k ≤ n ∧ (∀ j, j < k → vm (ms.getD j zm) = true) ∧ Below w.heap.size w wr ∧ Bx 26 wr w.heap.size #[.slice A n cap, .int .i64 d]) (fun i _ => n - (intOf i).toNat)
      case atStart => exact ⟨0, rfl, by omega, fun j h => absurd h (by omega), below_box _ _, HX.out⟩
      case round =>
        obtain ⟨k, rfl, hk, hall, hb, hx⟩ := hrel
        have HA := Lib.hid hall
        have HB := Lib.hid hb
        have HX := Lib.hid hx
        have HR := Lib.hid (HQ.out.below hb)
        have q0 : wr.cell? ⟨w.heap.size, 0, none⟩ = some (.slice A n cap) := hx.cell 0
        have q1 : wr.cell? ⟨w.heap.size, 1, none⟩ = some (.int .i64 d) := hx.cell 1
        clear hall hb hx
        by_cases hlt : k < n
        · obtain ⟨b, off, y, hA, hy, h1, h2, A', n', c', hd, c0, c1, c2, c3⟩ := at_ HR.out hlt
          have HY := Lib.hid (getD_of hy)
          have HD := Lib.hid hd
          clear hy hd
          subst hA
          have hlt2 : (k : Int) < n := by omega
          obtain ⟨t, ht⟩ : ∃ t, vm y = t := ⟨_, rfl⟩
          have HT := Lib.hid ht
          clear ht
          go_wp2_with fail
          have HB := Lib.hid (HB.out.alloc HB.out.size (.cells #[.int .i64 y.1, .int .i64 y.2.1, .int .i64 y.2.2.1, .slice A' n' c'] 28))
          have HX := Lib.hid (HX.out.below (below_box wr (.cells #[.int .i64 y.1, .int .i64 y.2.1, .int .i64 y.2.2.1, .slice A' n' c'] 28)))
          (with_reducible refine (implVm y A' n' c' HD.out.len _).mono ?_)
          rintro e w2 hp
          obtain ⟨rfl, hb2⟩ := b_parts HT.out hp
          have HB2 := Lib.hid (HB.out.trans (hb2.mono HB.out.size))
          have HX2 := Lib.hid (HX.out.below hb2)
          clear hp hb2 q0 q1 c0 c1 c2 c3
          cases t with
          | true =>
            go_wp2_with fail
            go_roundw
            case rel => exact ⟨k + 1, by go_num, by omega, fun j hj => by
              rcases Nat.lt_or_ge j k with hjk | hjk
              · exact HA.out j hjk
              · obtain rfl : j = k := by omega
                rw [HY.out]; exact HT.out, HB2.out, HX2.out⟩
            case measure => simp [intOf]; omega
          | false =>
            have HF := Lib.hid (not_vm HL.out hlt (by rw [HY.out]; exact HT.out))
            go_wp2_with fail
            go_ret
            exact ⟨by rw [HV.out, HF.out]; simp, HB2.out⟩
        · have hlt2 : ¬ (k : Int) < n := by omega
          obtain rfl : k = n := by omega
          have HF := Lib.hid (all_vm HL.out HA.out)
          go_wp2_with fail
          go_ret
          exact ⟨by rw [HV.out, HF.out]; rfl, HB.out⟩
    | false =>
      have e1 : decide (d < 0) = true := by have := of_decide_eq_false HW.out; exact decide_eq_true (by omega)
      go_wp2_with fail
      go_ret
      exact ⟨by rw [HV.out]; rfl, HB0.out⟩
  | false =>
    have e0 : decide ((12 : Int) < n) = true := by have := of_decide_eq_false HU.out; exact decide_eq_true (by omega)
    go_wp2_with fail
    go_ret
    exact ⟨by rw [HV.out]; rfl, HB0.out⟩
set_option maxRecDepth 100000 in
set_option maxHeartbeats 4000000 in
theorem specVq (ms : List Msg) (d : Int) (A : Option Addr) (n cap lo hi : Nat) (w : World) (h : Rq msg w lo hi A n cap ms) :
    Calls Try.prog 15 #[qV A n cap d] w (BPost (vq ms d) w) := by
  have hc := h.cap_
  have HQ := Lib.hid h
  clear h
  have HL := Lib.hid HQ.out.len
  have HX := Lib.hid (Bx.made 26 w #[.slice A n cap, .int .i64 d])
  obtain ⟨u, hu⟩ : ∃ u, decide ((n : Int) ≤ 12) = u := ⟨_, rfl⟩
  obtain ⟨v, hv⟩ : ∃ v, decide (0 ≤ d) = v := ⟨_, rfl⟩
  have HV := Lib.hid (show vq ms d = (u && (v && ms.all vm)) by unfold vq; rw [← hu, ← hv, HL.out]; congr 1; exact decide_eq_decide.2 (by omega))
  have HU := Lib.hid hu
  have HW := Lib.hid hv
  clear hu hv
  go_enter Try.func15, Try.ntmps15
  go_wp2_with fail
  go_loopw [3] (fun i wr => ∃ k : Nat, i = .int .i64 k ∧ k ≤ n ∧ (∀ j, j < k → vm (ms.getD j zm) = true) ∧ Below w.heap.size w wr ∧ Bx 26 wr w.heap.size #[.slice A n cap, .int .i64 d]) (fun i _ => n - (intOf i).toNat)
  case atStart => exact ⟨0, rfl, by omega, fun j h => absurd h (by omega), below_box _ _, HX.out⟩
  case round =>
    obtain ⟨k, rfl, hk, hall, hb, hx⟩ := hrel
    have HA := Lib.hid hall
    have HB := Lib.hid hb
    have HX := Lib.hid hx
    have HR := Lib.hid (HQ.out.below hb)
    have q0 : wr.cell? ⟨w.heap.size, 0, none⟩ = some (.slice A n cap) := hx.cell 0
    have q1 : wr.cell? ⟨w.heap.size, 1, none⟩ = some (.int .i64 d) := hx.cell 1
    clear hall hb hx
    by_cases hlt : k < n
    · obtain ⟨b, off, y, hA, hy, h1, h2, A', n', c', hd, c0, c1, c2, c3⟩ := at_ HR.out hlt
      have HY := Lib.hid (getD_of hy)
      have HD := Lib.hid hd
      clear hy hd
      subst hA
      have hlt2 : (k : Int) < n := by omega
      obtain ⟨t, ht⟩ : ∃ t, vm y = t := ⟨_, rfl⟩
      have HT := Lib.hid ht
      clear ht
      go_wp2_with fail
      (with_reducible refine (specVm y A' n' c' HD.out.len _).mono ?_)
      rintro e w2 hp
      obtain ⟨rfl, hb2⟩ := b_parts HT.out hp
      have HB2 := Lib.hid (HB.out.trans (hb2.mono HB.out.size))
      have HX2 := Lib.hid (HX.out.below hb2)
      clear hp hb2 q0 q1 c0 c1 c2 c3
      cases t with
      | true =>
        go_wp2_with fail
        go_roundw
        case rel => exact ⟨k + 1, by go_num, by omega, fun j hj => by
          rcases Nat.lt_or_ge j k with hjk | hjk
          · exact HA.out j hjk
          · obtain rfl : j = k := by omega
            rw [HY.out]; exact HT.out, HB2.out, HX2.out⟩
        case measure => simp [intOf]; omega
      | false =>
        have HF := Lib.hid (not_vm HL.out hlt (by rw [HY.out]; exact HT.out))
        go_wp2_with fail
        go_ret
        exact ⟨by rw [HV.out, HF.out]; simp, HB2.out⟩
    · have hlt2 : ¬ (k : Int) < n := by omega
      obtain rfl : k = n := by omega
      have HF := Lib.hid (all_vm HL.out HA.out)
      cases u with
      | true =>
        have e0 := HU.out
        have e1 := HW.out
        go_wp2_with fail
        go_ret
        exact ⟨by rw [HV.out, HF.out]; simp, HB.out⟩
      | false =>
        have e0 := HU.out
        go_wp2_with fail
        go_ret
        exact ⟨by rw [HV.out]; rfl, HB.out⟩
set_option maxRecDepth 100000 in
set_option maxHeartbeats 4000000 in
theorem implNm (ms : List Msg) (d : Int) (A : Option Addr) (n cap lo hi : Nat) (w : World) (h : Rq msg w lo hi A n cap ms) :
    Calls Try.prog 23 #[qV A n cap d] w (NPost (bst gt ms n) w) := by
  have hc := h.cap_
  have HQ := Lib.hid h
  clear h
  have HX := Lib.hid (Bx.made 26 w #[.slice A n cap, .int .i64 d])
  have HR := Lib.hid (HQ.out.below (below_box w (.cells #[.slice A n cap, .int .i64 d] 26)))
  have HB := Lib.hid (below_box w (.cells #[.slice A n cap, .int .i64 d] 26))
  go_enter Try.func23, Try.ntmps23
  go_wp2_with fail
  (with_reducible refine (chosenT ms A n cap lo hi _ HR.out).mono ?_)
  rintro e w1 ⟨rfl, hb⟩
  have HB1 := Lib.hid (HB.out.trans (hb.mono HB.out.size))
  clear hb
  go_wp2_with fail
  go_ret
  exact ⟨rfl, HB1.out⟩
end Go.Proofs.Ytjmenbpalihnnaa.mq
end

section
namespace Go.Proofs.Ytjmenbpalihnnaa.mq
open Go.RowKit sl harn bx mrw
set_option linter.unusedVariables false
set_option linter.unusedSimpArgs false

theorem infoM : (Try.prog.info? 28).map (fun i => (i.zero, i.size, i.bytes)) = some (some (.agg #[.int .i64 0, .int .i64 0, .int .i64 0, .slice none 0 0]), 4, 48) := by kernel_rfl
theorem szM : (Try.prog.info? 28).map (·.size) = some 4 := by kernel_rfl
theorem szQ : (Try.prog.info? 26).map (·.size) = some 2 := by kernel_rfl
theorem oneM (a b c : Int) (A : Option Addr) (n k : Nat) : (#[.int .i64 a, .int .i64 b, .int .i64 c, .slice A n k] : Array Value).all (·.oneCell') = true :=
  all_oneCell_toArray (cs := [.int .i64 a, .int .i64 b, .int .i64 c, .slice A n k]) (by intro v hv; simp only [List.mem_cons, List.not_mem_nil, or_false] at hv; rcases hv with rfl | rfl | rfl | rfl <;> rfl)
theorem oneQ (A : Option Addr) (n k : Nat) (a : Int) : (#[.slice A n k, .int .i64 a] : Array Value).all (·.oneCell') = true :=
  all_oneCell_toArray (cs := [.slice A n k, .int .i64 a]) (by intro v hv; simp only [List.mem_cons, List.not_mem_nil, or_false] at hv; rcases hv with rfl | rfl <;> rfl)
theorem run_makeS {P : Program} (t e : TypeId) (i : TypeInfo) (z : Value) (s : Nat) (ht : P.underlying t = some (.slice e)) (hi : P.info? e = some i) (hz : i.zero = some z) (hs : i.size = s)
    (n : Nat) (hb8 : i.bytes ≤ 128) (hn : n ≤ 67108864) (w : World) :
    (Instr.makeSlice t (.int .i64 (n : Int)) (.int .i64 (n : Int))).run P w = .ok (.slice (some ⟨w.heap.size, 0, none⟩) n n) (w.alloc (.cells (madeCells z.cells (n * s)) e)) := by
  have hb : (i.bytes : Int) * (n : Int) ≤ 281474976710656 := by
    have h : ((i.bytes * n : Nat) : Int) ≤ 281474976710656 := by
      have h1 := Nat.mul_le_mul hb8 hn
      omega
    rwa [Int.natCast_mul] at h
  have hr := run_make (P := P) w t e i z ht hi hz .i64 .i64 n n (by omega) (by omega) hb (by omega)
  simp only [Int.toNat_natCast] at hr
  rw [hs] at hr
  exact hr
/-- What remains of a bound behind t: -1 if it does not suffice. -/
def SzPost (left : Int) (t : Nat) (w : World) (e : Ending) (w' : World) : Prop := ∃ r : Int, e = .returned (.int .i64 r) ∧ ((r = -1 ∧ left < t) ∨ (r = left - t ∧ (t : Int) ≤ left)) ∧ Below w.heap.size w w'
theorem szB_in (A : Option Addr) (n cap : Nat) (left : Int) (hl : 0 ≤ left ∧ left ≤ 1048576) (hn : (n : Int) ≤ 9223372036854775807) (hle : (n : Int) ≤ left) (w : World) :
    Calls Try.prog 90 #[.slice A n cap, .int .i64 left] w fun e w' => e = .returned (.int .i64 (left - n)) ∧ w = w' := by
  obtain ⟨h0, h1⟩ := hl
  have hd : IntKind.i64.wrap (left - n) = left - n := IntWalk.i64_in _ (by omega)
  have hq : ¬ left - n < 0 := by omega
  go_enter Try.func90, Try.ntmps90
  go_wp2
  go_ret
  exact ⟨rfl, rfl⟩
theorem szB_out (A : Option Addr) (n cap : Nat) (left : Int) (hl : 0 ≤ left ∧ left ≤ 1048576) (hn : (n : Int) ≤ 9223372036854775807) (hle : left < (n : Int)) (w : World) :
    Calls Try.prog 90 #[.slice A n cap, .int .i64 left] w fun e w' => e = .returned (.int .i64 (-1)) ∧ w = w' := by
  obtain ⟨h0, h1⟩ := hl
  have hd : IntKind.i64.wrap (left - n) = left - n := IntWalk.i64_in _ (by omega)
  have hq : left - n < 0 := by omega
  go_enter Try.func90, Try.ntmps90
  go_wp2
  go_ret
  exact ⟨rfl, rfl⟩
/-- Messages that a function hands back. -/
def SPost (ms : List Msg) (w : World) (e : Ending) (w' : World) : Prop := ∃ A n cap, e = .returned (.slice A n cap) ∧ Oq msg w' w.heap.size w'.heap.size A n cap ms ∧ Below w.heap.size w w'
end Go.Proofs.Ytjmenbpalihnnaa.mq
end

section
namespace Go.Proofs.Ytjmenbpalihnnaa.mq
open Go.RowKit sl harn bx mrw
set_option linter.unusedVariables false
set_option linter.unusedSimpArgs false

/-- The marks of messages: consecutive numbers. -/
def mk1 (q : Int) (m : Msg) : Msg := (q, q + 1, q + 2, marks .u8 (q + 3) m.2.2.2.length)
def mks : Int → List Msg → List Msg
  | _, [] => []
  | q, m :: r => mk1 q m :: mks (q + 3 + m.2.2.2.length) r
def tot (ms : List Msg) : Int := 3 * (ms.length : Int) + (blk ms : Nat)
theorem tot_snoc (ms : List Msg) (m : Msg) : tot (ms ++ [m]) = tot ms + 3 + m.2.2.2.length := by
  unfold tot
  rw [blk_snoc]
  simp
  omega
theorem tot_nonneg (ms : List Msg) : 0 ≤ tot ms := by unfold tot; omega
theorem tot_cons (m : Msg) (ms : List Msg) : tot (m :: ms) = 3 + m.2.2.2.length + tot ms := by
  unfold tot blk
  simp
  omega
theorem blk_append (a b : List Msg) : blk (a ++ b) = blk a + blk b := by simp [blk]
theorem tot_take (ms : List Msg) (k : Nat) : tot (ms.take k) ≤ tot ms := by
  have h : tot (ms.take k ++ ms.drop k) = tot (ms.take k) + tot (ms.drop k) := by
    unfold tot
    rw [blk_append, List.length_append]
    omega
  have h2 := tot_nonneg (ms.drop k)
  rw [List.take_append_drop] at h
  omega
theorem mks_snoc (m : Msg) : ∀ (l : List Msg) (q : Int), mks q (l ++ [m]) = mks q l ++ [mk1 (q + tot l) m]
  | [], q => by simp [mks, tot, blk]
  | x :: r, q => by
    have e : q + 3 + (x.2.2.2.length : Int) + tot r = q + tot (x :: r) := by rw [tot_cons]; omega
    rw [List.cons_append, mks, mks_snoc m r, mks, e]
    rfl
theorem mks_len : ∀ (l : List Msg) (q : Int), (mks q l).length = l.length
  | [], _ => rfl
  | x :: r, q => by rw [mks, List.length_cons, mks_len r, List.length_cons]
theorem mks_at {ms : List Msg} {j : Nat} {m : Msg} (h : ms[j]? = some m) (q : Int) : (mks q ms)[j]? = some (mk1 (q + tot (ms.take j)) m) := by
  induction ms generalizing j q with
  | nil => simp at h
  | cons x r ih =>
    cases j with
    | zero =>
      have : x = m := by simpa using h
      subst this
      simp [mks, tot, blk]
    | succ j =>
      have h2 : r[j]? = some m := by simpa using h
      rw [mks, List.getElem?_cons_succ, ih h2, List.take_succ_cons, tot_cons]
      congr 2
      omega
/-- What marking the messages leaves. -/
def KPost (ms : List Msg) (w : World) (lo hi : Nat) (A : Option Addr) (n cap : Nat) (q : Int) (e : Ending) (w' : World) : Prop :=
  e = .returned (.int .i64 (q + tot ms)) ∧ Oq msg w' lo hi A n cap (mks q ms) ∧ Tch lo hi w w'
theorem tch_trans {lo hi : Nat} {a b c : World} (h : Tch lo hi a b) (g : Tch lo hi b c) : Tch lo hi a c :=
  ⟨g.os.trans h.os, g.tape.trans h.tape, g.output.trans h.output, Nat.le_trans h.size g.size, fun k hk hd => (g.block k (Nat.lt_of_lt_of_le hk h.size) hd).trans (h.block k hk hd)⟩
theorem tch_set {lo hi b : Nat} {w0 w : World} (h : Tch lo hi w0 w) (hb : lo ≤ b ∧ b < hi) (i : Nat) (v : Value) : Tch lo hi w0 (w.setCell ⟨b, i, none⟩ v) :=
  ⟨h.os, h.tape, h.output, by simpa [World.setCell] using h.size, fun k hk hd => by rw [Below.heap_setCell _ _ _ _ (show k ≠ b by omega)]; exact h.block k hk hd⟩
theorem set_map {es : List (El Msg)} {l r : List Msg} {j : Nat} {m : Msg} (h : es.map (·.x) = l ++ m :: r) (hl : l.length = j) (x' : Msg) (A : Option Addr) (n c : Nat) : (es.set j ⟨x', A, n, c⟩).map (·.x) = l ++ x' :: r := by
  rw [List.map_set, h, List.set_append_right _ _ (by omega), hl, Nat.sub_self]
  rfl
end Go.Proofs.Ytjmenbpalihnnaa.mq
end

section
namespace Go.Proofs.Ytjmenbpalihnnaa.mq
open Go.RowKit sl harn bx mrw
set_option linter.unusedVariables false
set_option linter.unusedSimpArgs false

/-- Nothing but the row and its elements' slices has changed. -/
def Only (A : Option Addr) (es0 : List (El Msg)) (w w' : World) : Prop := ∀ k, k < w.heap.size → blkOf A ≠ some k → (∀ e ∈ es0, ∀ a, e.A = some a → a.block ≠ k) → w'.heap[k]? = w.heap[k]?
def KfPost (ms : List Msg) (es0 : List (El Msg)) (f : El Msg) (zs : List Int) (w : World) (lo hi : Nat) (A : Option Addr) (n cap : Nat) (q : Int) (e : Ending) (w' : World) : Prop :=
  ∃ es, e = .returned (.int .i64 (q + tot ms)) ∧ es.map (·.x) = mks q ms ∧ Oe msg w' lo hi A n cap es ∧ Ow 5 .u8 w' lo hi f.A f.n f.c zs ∧ Ds (es ++ [f]) ∧ Tch lo hi w w' ∧ Only A es0 w w'
theorem set_same {α : Type} {l : List α} {j : Nat} {x : α} (h : l[j]? = some x) : l.set j x = l := by
  have hj := (List.getElem?_eq_some_iff.1 h).1
  rw [← (List.getElem?_eq_some_iff.1 h).2]
  exact List.set_getElem_self hj
theorem only_step {es0 es : List (El Msg)} {g j l r : Nat} {e : El Msg} {w wr w3 w4 : World} (h : Only (some ⟨g, 0, none⟩) es0 w wr) (hm : es.map (·.A) = es0.map (·.A)) (he : es[j]? = some e) (ht : Tch l r w3 w4) (hq : ∀ q, l ≤ q → q < r → ∃ a, e.A = some a ∧ a.block = q) (hs : w.heap.size ≤ w3.heap.size) (h3 : ∀ k, k ≠ g → w3.heap[k]? = wr.heap[k]?) : Only (some ⟨g, 0, none⟩) es0 w w4 := by
  intro k hk h1 h2
  rw [← h k hk h1 h2, ← h3 k (fun e => h1 (by rw [e]; rfl))]
  refine ht.block k (by omega) ?_
  rcases Nat.lt_or_ge k l with g1 | g1
  · exact Or.inl g1
  · rcases Nat.lt_or_ge k r with g2 | g2
    · exfalso
      obtain ⟨a, ha, hb⟩ := hq k g1 g2
      have h9 : (es0.map (·.A))[j]? = some e.A := by rw [← hm, List.getElem?_map, he]; rfl
      rw [List.getElem?_map] at h9
      cases h8 : es0[j]? with
      | none => rw [h8] at h9; cases h9
      | some e0 =>
        rw [h8] at h9
        have h7 : e0.A = e.A := by simpa using h9
        exact h2 e0 (List.mem_of_getElem? h8) a (h7.trans ha) hb
    · exact Or.inr g2
end Go.Proofs.Ytjmenbpalihnnaa.mq
end

section
namespace Go.Proofs.Ytjmenbpalihnnaa.drk
open Go.RowKit sl harn bx draw
set_option linter.unusedVariables false

theorem bx_keep {T : TypeId} {w w' : World} {p b : Nat} {cs : Array Value} (h : Bx T w b cs) (k : Keep p w w') (hn : b ≠ p) : Bx T w' b cs := h.same (k.block b h.lt hn)
theorem later {p : Nat} {w w1 w2 : World} (h : Keep p w w1) {B : Nat} (hB : w.heap.size ≤ B) (hb : Below B w1 w2) : Keep p w w2 :=
  ⟨hb.os.trans h.os, hb.tape.trans h.tape, hb.output.trans h.output, Nat.le_trans h.size hb.size, fun j hj hn => (hb.block j (by omega)).trans (h.block j hj hn)⟩
/-- The cursor behind a change above it. -/
theorem cur_later {w w1 w2 : World} {p B : Nat} {a : Option Addr} {len cap : Nat} (h0 : Cur w p a len cap) (hk : Keep p w w1) (h : Cur w1 p a len cap) (hB : w.heap.size ≤ B) (hb : Below B w1 w2) : Cur w2 p a len cap := by
  have hp := h0.lt
  have k2 := later hk hB hb
  obtain ⟨-, i, g, hi, hblk⟩ := h
  exact ⟨h0.1.keep k2, i, g, hi, (hb.block p (by omega)).trans hblk⟩
/-- A cursor's world in which all that stood there stands. -/
theorem cur_below {w w' : World} {p : Nat} {a : Option Addr} {len cap : Nat} (h : Cur w p a len cap) (hb : Below w.heap.size w w') : Cur w' p a len cap := cur_later h (Keep.refl p w) h (Nat.le_refl _) hb
/-- Stores into one block that was made behind a world. -/
theorem below_four {B c : Nat} {a w : World} (h : Below B a w) (hc : B ≤ c) (v0 v1 v2 v3 : Value) :
    Below B a ((((w.setCell ⟨c, 0, none⟩ v0).setCell ⟨c, 1, none⟩ v1).setCell ⟨c, 2, none⟩ v2).setCell ⟨c, 3, none⟩ v3) :=
  (((h.setCell (p := ⟨c, 0, none⟩) hc v0).setCell (p := ⟨c, 1, none⟩) hc v1).setCell (p := ⟨c, 2, none⟩) hc v2).setCell (p := ⟨c, 3, none⟩) hc v3
theorem keep_bel {w w1 w2 : World} {B : Nat} (h : Below B w w1) (hB : B ≤ w1.heap.size) (k : Keep w1.heap.size w1 w2) : Below B w w2 :=
  h.trans ⟨k.os, k.tape, k.output, k.size, fun j hj => k.block j (by omega) (by omega)⟩
/-- How a draw, or what makes memory beside one, changes the world. -/
def Dr (p : Nat) (A : Option Addr) (len cap : Nat) (w w' : World) : Prop := Keep p w w' ∧ Cur w' p A len cap
end Go.Proofs.Ytjmenbpalihnnaa.drk
end

section
namespace Go.Proofs.Ytjmenbpalihnnaa.rgp
open Go Go.RowKit sl harn bx mrw
set_option linter.unusedVariables false

/-- An append onto the row: the old slice stays, only its block may change. -/
def Ap {α : Type} (S : Sh α) (lo hi : Nat) (A : Option Addr) (n cap : Nat) (es : List (El α)) (w w' : World) : Prop := Oe S w lo hi A n cap es ∧ w.grownBy w' (blkOf A) ∧ Oe S w' lo hi A n cap es
/-- Operation number k changes the world as E2 says, the others as E1 says. -/
def EA (k : Nat) (E1 E2 : World → World → Prop) (i : Nat) (w w' : World) : Prop := (i ≠ k ∧ E1 w w') ∨ (i = k ∧ E2 w w')
/-- What is right of a value and stays so under both. -/
def St (E1 E2 : World → World → Prop) : Type := { p : Value → World → Prop // ∀ v w w', p v w → (E1 w w' ∨ E2 w w') → p v w' }
def is {E1 E2 : World → World → Prop} (x : Value) : St E1 E2 := ⟨fun v _ => v = x, fun _ _ _ h _ => h⟩
def val {E1 E2 : World → World → Prop} (p : Value → Prop) : St E1 E2 := ⟨fun v _ => p v, fun _ _ _ h _ => h⟩
def RA {E1 E2 : World → World → Prop} (k : Nat) (l : List (St E1 E2)) (q : Value → World → Prop) (i : Nat) (v : Value) (w : World) : Prop := (i ≠ k → (l.getD i (val fun _ => True)).1 v w) ∧ (i = k → q v w)
section
variable {E1 E2 : World → World → Prop} {k i : Nat} {l : List (St E1 E2)} {q : Value → World → Prop} {v : Value} {w w' : World}
theorem ea1 (h : (i == k) = false) (hb : E1 w w') : EA k E1 E2 i w w' := Or.inl ⟨by simpa using h, hb⟩
theorem ea2 (hb : E2 w w') : EA k E1 E2 k w w' := Or.inr ⟨rfl, hb⟩
theorem ea_cases {p : Prop} (h : EA k E1 E2 i w w') (h1 : E1 w w' → p) (h2 : E2 w w' → p) : p := by
  rcases h with ⟨_, h⟩ | ⟨_, h⟩
  · exact h1 h
  · exact h2 h
theorem ra1 (h : (i == k) = false) (hp : (l.getD i (val fun _ => True)).1 v w) : RA k l q i v w := ⟨fun _ => hp, fun e => by rw [e] at h; simp at h⟩
theorem ra1_out (h : (i == k) = false) (hp : RA k l q i v w) : (l.getD i (val fun _ => True)).1 v w := hp.1 (by simpa using h)
theorem ra2 (hp : q v w) : RA k l q k v w := ⟨fun h => absurd rfl h, fun _ => hp⟩
theorem ra2_out (hp : RA k l q k v w) : q v w := hp.2 rfl
theorem ra_keep (hq : ∀ v w w', q v w → E1 w w' → q v w') : ∀ i j v w w', i ≠ j → RA k l q j v w → EA k E1 E2 i w w' → RA k l q j v w' := by
  intro i j v w w' hij hr he
  refine ⟨fun hj => (l.getD j _).2 v w w' (hr.1 hj) ?_, fun hj => ?_⟩
  · rcases he with ⟨_, he⟩ | ⟨_, he⟩
    · exact Or.inl he
    · exact Or.inr he
  · rcases he with ⟨_, he⟩ | ⟨hi, _⟩
    · exact hq v w w' (hr.2 hj) he
    · exact absurd (hi.trans hj.symm) hij
end
section
variable {P : Program} {Q : Exit → Act → World → Prop} {a0 : Act}
/-- The rule: each operation with a relation of its own, a chain at the end. -/
theorem region_tailE {id : Nat} {l : List Oper} {w : World} (E : Nat → World → World → Prop) (s N : Nat) (nd : List (Option (List (Nat × Tmp)))) (hd : List (Nat × Tmp)) (C : World → Prop) (R : Nat → Value → World → Prop) (hm : P.follows .mixedOrders = true) (hs : decide (s < l.length) = true) (hB : reg.okB l.toArray s N [] nd = true)
    (hT : Region.seqB .any l.toArray (l.length - s) s (reg.upTo l.length s) = true) (hN : a0.tmps.size = N) (hC : ∀ i w w', C w → E i w w' → C w') (hR : ∀ i j v w w', i ≠ j → R j v w → E i w w' → R j v w') (h0 : C w.drew) (hH : reg.heads l.toArray s = hd) (hA : reg.All E [] P l.toArray R C a0 0 l nd)
    (hF : ∀ w, C w → reg.Obs l.toArray R w (fun c => wpList P l.toArray Q (l.drop s) c w) hd a0) : (Code.region id l.toArray true).wp P Q a0 w :=
  wp_region_any hm (by
    subst hH
    exact reg.any_tail (Q := Q) (E := E) (rf := []) (of_decide_eq_true hs) (reg.ok_of hB) hT hN hC hR hA hF _ _ a0 w.drew (by simp) (reg.inv_start h0))
end
/-- A block of another type is not the row's own. -/
theorem ne_type {α : Type} {S : Sh α} {w : World} {lo hi n cap : Nat} {A : Option Addr} {es : List (El α)} {T : TypeId} {b : Nat} {cs : Array Value} (h : Bx T w b cs) (o : Oe S w lo hi A n cap es) (hT : T ≠ S.T) : some b ≠ blkOf A := by
  intro e
  rcases o.form with ⟨e0, _⟩ | ⟨g, cur, e0, _, _, h3, _⟩
  · rw [e0] at e; cases e
  · rw [e0] at e
    obtain rfl : b = g := by simpa using e
    unfold Bx at h
    rw [h] at h3
    simp only [Option.some.injEq, Obj.cells.injEq] at h3
    exact hT h3.2.1
/-- A row and its slices stay when a block of another type changes. -/
theorem oe_set {α : Type} {S : Sh α} {w : World} {lo hi n cap : Nat} {A : Option Addr} {es : List (El α)} {T : TypeId} {b : Nat} {cs : Array Value} (o : Oe S w lo hi A n cap es) (h : Bx T w b cs) (hT : T ≠ S.T) (h8 : T ≠ 5) {w' : World} (hs : w.heap.size ≤ w'.heap.size) (hw : ∀ k, k ≠ b → w'.heap[k]? = w.heap[k]?) : Oe S w' lo hi A n cap es := by
  have ow : ∀ {lo2 hi2 m c : Nat} {B : Option Addr} {zs : List Int}, Ow 5 .u8 w lo2 hi2 B m c zs → Ow 5 .u8 w' lo2 hi2 B m c zs := by
    intro lo2 hi2 m c B zs ho
    obtain ⟨⟨q1, q2⟩, q3, q4, q5⟩ := ho
    refine ⟨⟨q1, ?_⟩, q3, by omega, q5⟩
    rcases q2 with q2 | ⟨g', c', cur', e, r1, r2, r3⟩
    · exact Or.inl q2
    · refine Or.inr ⟨g', c', cur', e, r1, ?_, r3⟩
      rw [hw g' (fun heq => by
        subst heq
        unfold Bx at h
        rw [h] at r2
        simp only [Option.some.injEq, Obj.cells.injEq] at r2
        exact h8 r2.2.1)]
      exact r2
  refine ⟨⟨o.row.1, ?_⟩, fun e he => ow (o.body e he), o.ds, by have := o.hi_; omega, o.lt⟩
  rcases o.row.2 with h2 | ⟨g, c, cur, e, g1, g2, g3⟩
  · exact Or.inl h2
  · refine Or.inr ⟨g, c, cur, e, g1, ?_, g3⟩
    rw [hw g (fun heq => by
      subst heq
      unfold Bx at h
      rw [h] at g2
      simp only [Option.some.injEq, Obj.cells.injEq] at g2
      exact hT g2.2.1)]
    exact g2
theorem oe_setCell {α : Type} {S : Sh α} {w : World} {lo hi n cap : Nat} {A : Option Addr} {es : List (El α)} {T : TypeId} {b : Nat} {cs : Array Value} (o : Oe S w lo hi A n cap es) (h : Bx T w b cs) (hT : T ≠ S.T) (h8 : T ≠ 5) (i : Nat) (v : Value) : Oe S (w.setCell ⟨b, i, none⟩ v) lo hi A n cap es :=
  oe_set o h hT h8 (by simp [World.setCell]) fun k hk => Below.heap_setCell _ _ _ _ hk
/-- An element's value with a slice of the call's own above the row. -/
def elv {α : Type} (S : Sh α) (lo hi : Nat) (A : Option Addr) (n cap : Nat) (es : List (El α)) (x : α) (f : Option Addr → Nat → Nat → Value) : St reg.Bel (Ap S lo hi A n cap es) :=
  ⟨fun v w => ∃ A2 n2 c2 lo2 hi2, v = f A2 n2 c2 ∧ hi ≤ lo2 ∧ lo ≤ lo2 ∧ Ow 5 .u8 w lo2 hi2 A2 n2 c2 (S.B x), fun v w w' ⟨A2, n2, c2, lo2, hi2, e, h1, h2, h⟩ hb => by
    rcases hb with hb | hb
    · exact ⟨A2, n2, c2, lo2, hi2, e, h1, h2, h.below hb⟩
    · exact ⟨A2, n2, c2, lo2, hi2, e, h1, h2, ow_grown hb.1 hb.2.1 h⟩⟩
/-- A new slice of that one element. -/
def onev {α : Type} (S : Sh α) (lo hi : Nat) (A : Option Addr) (n cap : Nat) (es : List (El α)) (x : α) (g : Option Addr → Nat → Nat → Array Value) : St reg.Bel (Ap S lo hi A n cap es) :=
  ⟨fun v w => ∃ q A2 n2 c2 lo2 hi2, v = .slice (some ⟨q, 0, none⟩) 1 1 ∧ hi ≤ q ∧ Bx S.T w q (g A2 n2 c2) ∧ hi ≤ lo2 ∧ lo ≤ lo2 ∧ Ow 5 .u8 w lo2 hi2 A2 n2 c2 (S.B x), fun v w w' ⟨q, A2, n2, c2, lo2, hi2, e, hq, hX, h1, h2, h⟩ hb => by
    rcases hb with hb | hb
    · exact ⟨q, A2, n2, c2, lo2, hi2, e, hq, hX.below hb, h1, h2, h.below hb⟩
    · exact ⟨q, A2, n2, c2, lo2, hi2, e, hq, grown_bx hX hb.2.1 (fun e => by have := hb.1.lo_ e.symm; omega), h1, h2, ow_grown hb.1 hb.2.1 h⟩⟩
/-- The row behind the append. -/
def newv {α : Type} (S : Sh α) (lo n : Nat) (es : List (El α)) (x : α) (v : Value) (w : World) : Prop := ∃ A3 c3 f hi3, v = .slice A3 (n + 1) c3 ∧ f.x = x ∧ Oe S w lo hi3 A3 (n + 1) c3 (es ++ [f])
theorem newv_keep {α : Type} {S : Sh α} {lo n : Nat} {es : List (El α)} {x : α} : ∀ v w w', newv S lo n es x v w → reg.Bel w w' → newv S lo n es x v w' := fun v w w' ⟨A3, c3, f, hi3, e, hf, h⟩ hb => ⟨A3, c3, f, hi3, e, hf, h.below hb⟩
/-- The append itself. -/
theorem wp_push {α : Type} {S : Sh α} {P : Program} {o : Oper} {a : Act} {w : World} {K : Act → World → Prop} {Q : Exit → Act → World → Prop} (s x : Operand) (t : TypeId)
    (hop : o.op = .call { callee := .builtin .append, args := #[s, x], argTypes := #[t, t] })
    {i : TypeInfo} {z : Value} (h1 : P.underlying t = some (.slice S.T)) (h2 : P.info? S.T = some i) (h3 : i.zero = some z) (h4 : i.size = S.s) (h5 : i.bytes ≤ 128) (h6 : z.cells.size = S.s)
    {lo hi n cap q : Nat} {A : Option Addr} {es : List (El α)} (hs : a.eval s = .slice A n cap) (hx : a.eval x = .slice (some ⟨q, 0, none⟩) 1 1) (h : Oe S w lo hi A n cap es) (y : α) {A2 : Option Addr} {n2 c2 : Nat} (hX : Bx S.T w q (S.C y A2 n2 c2).toArray)
    {lo2 hi2 : Nat} (hf : Ow 5 .u8 w lo2 hi2 A2 n2 c2 (S.B y)) (hl : hi ≤ lo2) (hll : lo ≤ lo2) (hn : n + 1 ≤ 1073741824) (hlo : lo ≤ w.heap.size)
    (hK : ∀ A' cap' w', newv S lo n es y (.slice A' (n + 1) cap') w' → Ap S lo hi A n cap es w w' → K (a.put o.dst (.slice A' (n + 1) cap')) w') : Oper.wp P o a w K Q := by
  obtain ⟨A', cap', w', hrun, g1, g2, g3, _⟩ := h.more (P := P) t o.type i z h1 h2 h3 h4 h5 h6 ⟨q, 0, none⟩ 1 1 [⟨y, A2, n2, c2⟩] rfl (fun j u hu => by
    have e : flat S [⟨y, A2, n2, c2⟩] = S.C y A2 n2 c2 := by simp [flat, cells]
    rw [e] at hu
    have e2 : (⟨q, 0, none⟩ : Addr).add j = ⟨q, j, none⟩ := by unfold Addr.add; split <;> simp_all
    rw [e2, hX.cell j]
    simpa using hu) (fun f' hf' => by
    obtain rfl : f' = ⟨y, A2, n2, c2⟩ := by simpa using hf'
    exact ⟨lo2, hi2, hll, hf⟩) (h.ds.push h.body hf hl) hn hlo
  unfold Oper.wp execOp
  simp only [hop, resolve, invoke, builtin, Sem.run_bind, Sem.run_pure, Result.andThen_ok, List.map_toArray, List.map_cons, List.map_nil, hs, hx, hrun]
  exact hK A' cap' w' ⟨A', cap', ⟨y, A2, n2, c2⟩, w'.heap.size, rfl, rfl, g1⟩ ⟨h, g2, g3⟩
end Go.Proofs.Ytjmenbpalihnnaa.rgp
end

section
namespace Go.Proofs.Ytjmenbpalihnnaa.mrw
open Go.RowKit sl harn bx
set_option linter.unusedVariables false
set_option linter.unusedSectionVars false
set_option linter.unusedSimpArgs false

section
variable {P : Program} (t E : TypeId) (i0 : TypeInfo) (s : Nat) (hu : P.underlying t = some (.slice E)) (hi : P.info? E = some i0) (hs : i0.size = s)
include hu hi hs
theorem sliceS_pre (g n cap j : Nat) (hj : j ≤ cap) (W : World) : (Instr.slice t (.slice (some ⟨g, 0, none⟩) n cap) none (some (.int .i64 j)) none).run P W = .ok (.slice (some ⟨g, 0, none⟩) j cap) W := by
  have hj2 : (j : Int) ≤ cap := by omega
  simp [Instr.slice, run_underlying hu, Instr.sliceBounds, Instr.sliceBound, sizeOf, typeInfo, hi, hs, go_sem]
  intro h; omega
theorem sliceS_post (g n cap j : Nat) (hj : j ≤ n) (hc : n ≤ cap) : ∃ ad : Addr, (j < n → ad = ⟨g, j * s, none⟩) ∧ ∀ W, (Instr.slice t (.slice (some ⟨g, 0, none⟩) n cap) (some (.int .i64 j)) none none).run P W = .ok (.slice (some ad) (n - j) (cap - j)) W := by
  refine ⟨if cap = j then ⟨g, 0, none⟩ else ⟨g, j * s, none⟩, fun h => ?_, fun W => ?_⟩
  · rw [if_neg (by omega)]
  · have hj2 : (j : Int) ≤ n := by omega
    simp [Instr.slice, run_underlying hu, Instr.sliceBounds, Instr.sliceBound, sizeOf, typeInfo, hi, hs, go_sem]
    rw [if_pos hj]
    congr 2
    split
    · rfl
    · rfl
theorem sliceS_mid (g n cap j m : Nat) (hj : j < m) (hm : m ≤ cap) (W : World) : (Instr.slice t (.slice (some ⟨g, 0, none⟩) n cap) (some (.int .i64 j)) (some (.int .i64 m)) none).run P W = .ok (.slice (some ⟨g, j * s, none⟩) (m - j) (cap - j)) W := by
  have hj2 : (j : Int) ≤ m := by omega
  have hj3 : (m : Int) ≤ cap := by omega
  simp [Instr.slice, run_underlying hu, Instr.sliceBounds, Instr.sliceBound, sizeOf, typeInfo, hi, hs, go_sem]
  rw [if_pos hm, if_pos (by omega), if_neg (by omega)]
theorem sliceS_three (g n cap j m c : Nat) (hj : j < m) (hm : m ≤ c) (hc : c ≤ cap) (W : World) : (Instr.slice t (.slice (some ⟨g, 0, none⟩) n cap) (some (.int .i64 j)) (some (.int .i64 m)) (some (.int .i64 c))).run P W = .ok (.slice (some ⟨g, j * s, none⟩) (m - j) (c - j)) W := by
  have hj2 : (j : Int) ≤ m := by omega
  have hj3 : (m : Int) ≤ c := by omega
  have hj4 : (c : Int) ≤ cap := by omega
  simp [Instr.slice, run_underlying hu, Instr.sliceBounds, Instr.sliceBound, sizeOf, typeInfo, hi, hs, go_sem]
  rw [if_pos hc, if_pos hm, if_pos (by omega), if_neg (by omega)]
end
section
variable {P : Program}
theorem at_slice (t E : TypeId) (hu : P.underlying t = some (.slice E)) (x : Value) (lo hi mx : Option Value) (W : World) : (Instr.sliceAt t x lo hi mx).run P W = (Instr.slice t x lo hi mx).run P W := by
  simp [Instr.sliceAt, run_underlying hu]
theorem wp_slice_h {o : Oper} {a : Act} {w : World} {K : Act → World → Prop} {Q : Exit → Act → World → Prop} (t : TypeId) (x y : Operand) (ho : o.op = .slice t x none (some y) none) (v yv r : Value) (hx : a.eval x = v) (hy : a.eval y = yv)
    (hr : ∀ W, (Instr.sliceAt t v none (some yv) none).run P W = .ok r W) (hK : K (a.put o.dst r) w) : Oper.wp P o a w K Q := by
  unfold Oper.wp execOp
  simp only [ho, Option.map_some, Option.map_none, hx, hy, Sem.run_bind, hr, Result.andThen_ok, Sem.run_pure]
  exact hK
theorem wp_slice_l {o : Oper} {a : Act} {w : World} {K : Act → World → Prop} {Q : Exit → Act → World → Prop} (t : TypeId) (x y : Operand) (ho : o.op = .slice t x (some y) none none) (v yv r : Value) (hx : a.eval x = v) (hy : a.eval y = yv)
    (hr : ∀ W, (Instr.sliceAt t v (some yv) none none).run P W = .ok r W) (hK : K (a.put o.dst r) w) : Oper.wp P o a w K Q := by
  unfold Oper.wp execOp
  simp only [ho, Option.map_some, Option.map_none, hx, hy, Sem.run_bind, hr, Result.andThen_ok, Sem.run_pure]
  exact hK
/-- 'clear' of one element within a row. -/
theorem run_clear_at (w : World) (t e ty : TypeId) (zs : Array Value) (ht : P.underlying t = some (.slice e)) (hv : ∀ w, (zeroValue e).run P w = .ok (.agg zs) w) (h1 : zs.all (·.oneCell') = true) (b o c : Nat) (hz : 0 < zs.size) (hth : w.there b o zs.size) :
    (Builtin.clear_ #[t] ty #[.slice (some ⟨b, o, none⟩) 1 c]).run P w = .ok (.tuple #[]) (w.setCells b o zs.toList) := by
  have hzc : (Builtin.zeroCells zs 1).toList = zs.toList := by
    simp [Builtin.zeroCells]
    apply List.ext_getElem
    · simp
    · intro i g1 g2
      simp at g1
      have : i < zs.size := by simpa using g2
      simp [Nat.mod_eq_of_lt this]
      exact getElem!_pos zs i this
  have h2 := run_storeCells_cells (P := P) b o zs.toList 0 w (fun j hj => by simpa using (hth j (by simpa using hj)).1) (fun j hj => by simpa using (hth j (by simpa using hj)).2)
    (fun v hv => (Array.all_eq_true_iff_forall_mem.1 h1) v (by simpa using hv))
  simp only [Nat.add_zero] at h2
  simp [Builtin.clear_, run_underlying ht, hv, Value.cells, hzc, h2]
end
section
variable {α : Type} {S : Sh α} {w w' : World} {lo hi n cap : Nat} {A : Option Addr} {xs : List α} {es : List (El α)}
/-- The first of the elements. -/
theorem Oe.first {g : Nat} (h : Oe S w lo hi (some ⟨g, 0, none⟩) n cap es) {i : Nat} (hi' : i ≤ n) : Oe S w lo hi (some ⟨g, 0, none⟩) i cap (es.take i) := by
  obtain ⟨cur, h1, h2, h3, h4, h5, h6⟩ := row_at h.row
  refine ⟨⟨by rw [flat_len, List.length_take, h.len, Nat.min_eq_left hi'], .inr ⟨g, cap, cur, rfl, h2, h1, by omega, h4, h5, ?_⟩⟩, fun e he => h.body e (List.mem_of_mem_take he), List.Pairwise.sublist (List.take_sublist _ _) h.ds, h.hi_, h.lt⟩
  have := congrArg (List.take (i * S.s)) h6
  rw [List.take_take, Nat.min_eq_left (Nat.mul_le_mul_right _ hi'), flat_take] at this
  exact this
/-- An element removed by moving the others down, within the row. -/
theorem Oe.drop_ {P : Program} {g : Nat} (t ty : TypeId) (i : TypeInfo) (h1 : P.underlying t = some (.slice S.T)) (h2 : P.info? S.T = some i) (h4 : i.size = S.s) (h : Oe S w lo hi (some ⟨g, 0, none⟩) n cap es) {j : Nat} (hj : j < n) (ad : Addr) (had : j + 1 < n → ad = ⟨g, (j + 1) * S.s, none⟩) (c : Nat) :
    ∃ w', (Builtin.append_ #[t, t] ty #[.slice (some ⟨g, 0, none⟩) j cap, .slice (some ad) (n - (j + 1)) c]).run P w = .ok (.slice (some ⟨g, 0, none⟩) (n - 1) cap) w' ∧ Oe S w' lo hi (some ⟨g, 0, none⟩) (n - 1) cap (es.eraseIdx j) ∧ w.grownBy w' (some g) := by
  have hl := h.len
  have ho := h.first (i := j) (by omega)
  obtain ⟨cur, k1, k2, k3, k4, k5, k6⟩ := row_at h.row
  have hfl : (es.drop (j + 1)).length = n - (j + 1) := by rw [List.length_drop, hl]
  have hsrc : ∀ q u, (flat S (es.drop (j + 1)))[q]? = some u → w.cell? (ad.add q) = some u := by
    intro q u hu
    have hq := (List.getElem?_eq_some_iff.1 hu).1
    rw [flat_len, hfl] at hq
    have hlt : j + 1 < n := by
      rcases Nat.lt_or_ge (j + 1) n with h | h
      · exact h
      · rw [show n - (j + 1) = 0 by omega] at hq; omega
    rw [had hlt, Addr.add_mid, ← flat_drop, List.getElem?_drop] at *
    rw [h.row.cellAt _ (by
      have : (n - (j + 1)) * S.s + (j + 1) * S.s = n * S.s := by rw [← Nat.add_mul]; congr 1; omega
      omega)]
    exact hu
  obtain ⟨w', hr, g1, g2⟩ := run_append_fits (P := P) w lo t ty S.T i S.s h1 h2 h4 g j cap _ ho.row ad (n - (j + 1)) c (flat S (es.drop (j + 1))) (by rw [flat_len, hfl]) hsrc (flat_one S _) (by omega)
  rw [← flat_append, ← List.eraseIdx_eq_take_drop_succ] at g1
  have e : j + (n - (j + 1)) = n - 1 := by omega
  rw [e] at hr g1
  have hsub : List.Sublist (es.eraseIdx j) es := List.eraseIdx_sublist _ _
  exact ⟨w', hr, ⟨g1, fun x hx => ow_grown h g2 (h.body x (hsub.subset hx)), List.Pairwise.sublist hsub h.ds, by have := h.hi_; have := g2.size; omega, h.lt⟩, g2⟩
theorem list_drop {P : Program} (w : World) {ops : Array Oper} {rest : List Oper} {o : Oper} {a : Act} {Q : Exit → Act → World → Prop} (hgd : o.guard = none) (s x : Operand) (t : TypeId)
    (hop : o.op = .call { callee := .builtin .append, args := #[s, x], argTypes := #[t, t] }) {i : TypeInfo} (h1 : P.underlying t = some (.slice S.T)) (h2 : P.info? S.T = some i) (h4 : i.size = S.s)
    {g j lo hi n cap c q : Nat} {ad : Addr} {es : List (El α)} (hs : a.eval s = .slice (some ⟨g, 0, none⟩) j cap) (hx : a.eval x = .slice (some ad) q c) (hq : q = n - (j + 1)) (h : Oe S w lo hi (some ⟨g, 0, none⟩) n cap es) (hj : j < n) (had : j + 1 < n → ad = ⟨g, (j + 1) * S.s, none⟩)
    (hK : ∀ w', Oe S w' lo hi (some ⟨g, 0, none⟩) (n - 1) cap (es.eraseIdx j) → w.grownBy w' (some g) → wpList P ops Q rest (a.put o.dst (.slice (some ⟨g, 0, none⟩) (n - 1) cap)) w') : wpList P ops Q (o :: rest) a w := by
  subst hq
  refine wpList_plain hgd fun K hK' => ?_
  obtain ⟨w', hrun, g1, g2⟩ := h.drop_ (P := P) t o.type i h1 h2 h4 hj ad had c
  unfold Oper.wp execOp
  simp only [hop, resolve, invoke, builtin, Sem.run_bind, Sem.run_pure, Result.andThen_ok, List.map_toArray, List.map_cons, List.map_nil, hs, hx, hrun]
  exact hK' _ _ (hK w' g1 g2)
theorem grown_setCells {g o : Nat} (hg : w.grownBy w' (some g)) (vs : List Value) : w.grownBy (w'.setCells g o vs) (some g) := by
  have hb : ∀ (vs : List Value) (o : Nat) (u : World), (u.setCells g o vs).os = u.os ∧ (u.setCells g o vs).tape = u.tape ∧ (u.setCells g o vs).output = u.output := by
    intro vs
    induction vs with
    | nil => intro o u; exact ⟨rfl, rfl, rfl⟩
    | cons v r ih => intro o u; rw [World.setCells]; exact ih _ _
  obtain ⟨e1, e2, e3⟩ := hb vs o w'
  exact ⟨e1.trans hg.os, e2.trans hg.tape, e3.trans hg.output, by rw [size_setCells]; exact hg.size, fun k hk hne => by
    rw [heap_setCells_ne (fun e => hne (by rw [e]))]; exact hg.block k hk hne⟩
end
end Go.Proofs.Ytjmenbpalihnnaa.mrw
end

section
namespace Go.Proofs.Ytjmenbpalihnnaa.stw
open Go.RowKit sl harn bx draw drk
set_option linter.unusedVariables false

/-- What a store leaves, and where. -/
structure Tgt where
  T : TypeId
  b : Nat
  cs : Array Value
section
variable (D : World → World → Prop) (ts : List (Nat × Tgt))
/-- Operation i: a store that is listed, or what the relation D allows. -/
def E3 (i : Nat) (w w' : World) : Prop := match ts.lookup i with
  | some t => Put t.T w t.b t.cs w'
  | none => D w w'
structure St3 where
  q : Value → World → Prop
  h1 : ∀ v w w', q v w → D w w' → q v w'
  h2 : ∀ v w w' x, x ∈ ts → q v w → Put x.2.T w x.2.b x.2.cs w' → q v w'
def is3 (x : Value) : St3 D ts := ⟨fun v _ => v = x, fun _ _ _ h _ => h, fun _ _ _ _ _ h _ => h⟩
def val3 (p : Value → Prop) : St3 D ts := ⟨fun v _ => p v, fun _ _ _ h _ => h, fun _ _ _ _ _ h _ => h⟩
/-- A block that the region makes. -/
def blk3 (kp : Nat → Prop) (hD : ∀ {w w' : World} {T : TypeId} {b : Nat} {cs : Array Value}, D w w' → kp b → Bx T w b cs → Bx T w' b cs) (f : Nat → Value) (T : TypeId) (cs : Array Value) : St3 D ts :=
  ⟨fun v w => ∃ N, v = f N ∧ kp N ∧ (∀ x ∈ ts, x.2.b ≠ N) ∧ Bx T w N cs, fun v w w' ⟨N, h1, h2, h3, h4⟩ h => ⟨N, h1, h2, h3, hD h h2 h4⟩, fun v w w' x hx ⟨N, h1, h2, h3, h4⟩ h => ⟨N, h1, h2, h3, h.keep h4 (fun e => h3 x hx e.symm)⟩⟩
def r3 (l : List (St3 D ts)) (j : Nat) (v : Value) (w : World) : Prop := match ts.lookup j with
  | some t => Bx t.T w t.b t.cs
  | none => (l.getD j (val3 D ts fun _ => True)).q v w
end
section
variable {D : World → World → Prop} {ts : List (Nat × Tgt)}
theorem lookup_mem : ∀ {ts : List (Nat × Tgt)} {i : Nat} {t : Tgt}, ts.lookup i = some t → (i, t) ∈ ts
  | (k, u) :: l, i, t, h => by
    rw [List.lookup_cons] at h
    split at h
    · rename_i he
      have e : i = k := by simpa using he
      rw [e, Option.some.inj h]
      exact List.mem_cons_self
    · exact List.mem_cons_of_mem _ (lookup_mem h)
theorem r3_keep (kp : Nat → Prop) (hD : ∀ {w w' : World} {T : TypeId} {b : Nat} {cs : Array Value}, D w w' → kp b → Bx T w b cs → Bx T w' b cs) (hp : ∀ x ∈ ts, kp x.2.b) (hd : ∀ x ∈ ts, ∀ y ∈ ts, x.1 ≠ y.1 → x.2.b ≠ y.2.b) (l : List (St3 D ts))
    (i j : Nat) (v : Value) (w w' : World) (hij : i ≠ j) (h : r3 D ts l j v w) (he : E3 D ts i w w') : r3 D ts l j v w' := by
  unfold r3 at h ⊢
  unfold E3 at he
  cases hj : ts.lookup j with
  | some t =>
    rw [hj] at h
    simp only at h ⊢
    cases hi : ts.lookup i with
    | some u =>
      rw [hi] at he
      exact Put.keep he h (hd _ (lookup_mem hj) _ (lookup_mem hi) (fun e => hij e.symm))
    | none => rw [hi] at he; exact hD he (hp _ (lookup_mem hj)) h
  | none =>
    rw [hj] at h
    simp only at h ⊢
    cases hi : ts.lookup i with
    | some u => rw [hi] at he; exact (l.getD j (val3 D ts fun _ => True)).h2 v w w' _ (lookup_mem hi) h he
    | none => rw [hi] at he; exact (l.getD j (val3 D ts fun _ => True)).h1 v w w' h he
theorem r3_ne {l : List (St3 D ts)} {j : Nat} {v : Value} {w : World} (hj : ts.lookup j = none) (h : (l.getD j (val3 D ts fun _ => True)).q v w) : r3 D ts l j v w := by
  unfold r3; rw [hj]; exact h
theorem r3_out {l : List (St3 D ts)} {j : Nat} {v : Value} {w : World} (hj : ts.lookup j = none) (h : r3 D ts l j v w) : (l.getD j (val3 D ts fun _ => True)).q v w := by
  unfold r3 at h; rw [hj] at h; exact h
theorem r3_put {l : List (St3 D ts)} {j : Nat} {v : Value} {w : World} {t : Tgt} (hj : ts.lookup j = some t) (h : Bx t.T w t.b t.cs) : r3 D ts l j v w := by
  unfold r3; rw [hj]; exact h
theorem r3_got {l : List (St3 D ts)} {j : Nat} {v : Value} {w : World} {t : Tgt} (hj : ts.lookup j = some t) (h : r3 D ts l j v w) : Bx t.T w t.b t.cs := by
  unfold r3 at h; rw [hj] at h; exact h
theorem e3_ne {i : Nat} {w w' : World} (hi : ts.lookup i = none) (h : D w w') : E3 D ts i w w' := by unfold E3; rw [hi]; exact h
theorem e3_put {i : Nat} {w w' : World} {t : Tgt} (hi : ts.lookup i = some t) (h : Put t.T w t.b t.cs w') : E3 D ts i w w' := by unfold E3; rw [hi]; exact h
theorem E3.cases {i : Nat} {w w' : World} {X : Prop} (h : E3 D ts i w w') (h1 : D w w' → X) (h2 : ∀ x ∈ ts, Put x.2.T w x.2.b x.2.cs w' → X) : X := by
  unfold E3 at h
  cases hi : ts.lookup i with
  | some u => rw [hi] at h; exact h2 _ (lookup_mem hi) h
  | none => rw [hi] at h; exact h1 h
end
/-- A variable lies there, whatever it holds. -/
def Lies (T : TypeId) (b n : Nat) (w : World) : Prop := ∃ cs, cs.size = n ∧ Bx T w b cs
theorem Lies.of {T : TypeId} {w : World} {b : Nat} {cs : Array Value} (h : Bx T w b cs) : Lies T b cs.size w := ⟨cs, rfl, h⟩
theorem Lies.same {T : TypeId} {b n : Nat} {w w' : World} (h : Lies T b n w) (hb : w'.heap[b]? = w.heap[b]?) : Lies T b n w' := by
  obtain ⟨cs, h1, h2⟩ := h; exact ⟨cs, h1, h2.same hb⟩
theorem Lies.lt {T : TypeId} {b n : Nat} {w : World} (h : Lies T b n w) : b < w.heap.size := by
  obtain ⟨cs, h1, h2⟩ := h; exact h2.lt
theorem Lies.put {T U : TypeId} {b c n : Nat} {w w' : World} {cs : Array Value} (h : Lies T b n w) (hp : Put U w c cs w') (he : c = b → U = T ∧ cs.size = n) : Lies T b n w' := by
  by_cases hc : c = b
  · obtain ⟨e1, e2⟩ := he hc
    subst hc e1
    exact ⟨cs, e2, hp.box⟩
  · exact h.same (hp.other b (fun e => hc e.symm))
/-- Of what was there only listed blocks may have been written. -/
structure KS (S : List Nat) (w w' : World) : Prop where
  os : w'.os = w.os
  tape : w'.tape = w.tape
  output : w'.output = w.output
  size : w.heap.size ≤ w'.heap.size
  block : ∀ k, k < w.heap.size → k ∉ S → w'.heap[k]? = w.heap[k]?
theorem KS.refl (S : List Nat) (w : World) : KS S w w := ⟨rfl, rfl, rfl, Nat.le_refl _, fun _ _ _ => rfl⟩
theorem KS.trans {S : List Nat} {a b c : World} (h : KS S a b) (g : KS S b c) : KS S a c :=
  ⟨g.os.trans h.os, g.tape.trans h.tape, g.output.trans h.output, Nat.le_trans h.size g.size, fun k h1 h2 => (g.block k (Nat.lt_of_lt_of_le h1 h.size) h2).trans (h.block k h1 h2)⟩
theorem KS.keep {S : List Nat} {p : Nat} {w w' : World} (h : Keep p w w') (hp : p ∈ S) : KS S w w' := ⟨h.os, h.tape, h.output, h.size, fun k h1 h2 => h.block k h1 (fun e => h2 (e ▸ hp))⟩
theorem KS.put {S : List Nat} {T : TypeId} {w w' : World} {b : Nat} {cs : Array Value} (h : Put T w b cs w') (hb : b ∈ S) : KS S w w' :=
  ⟨h.below.os, h.below.tape, h.below.output, h.below.size, fun k _ h2 => h.other k (fun e => h2 (e ▸ hb))⟩
theorem KS.below {S : List Nat} {w w' : World} {B : Nat} (h : KS S w w') (hS : ∀ x ∈ S, B ≤ x) (hB : B ≤ w.heap.size) : Below B w w' :=
  ⟨h.os, h.tape, h.output, h.size, fun k hk => h.block k (by omega) (fun hm => by have := hS k hm; omega)⟩
/-- The cursor behind a store beside it. -/
theorem cur_put {T : TypeId} {w0 w w' : World} {p q b : Nat} {A : Option Addr} {len cap : Nat} {cs : Array Value} (hc : draw.Code w0 q A len) (h : Cur w p A len cap) (hp : Put T w b cs w') (hb0 : w0.heap.size ≤ b) (hbp : b ≠ p) : Cur w' p A len cap := by
  obtain ⟨⟨hl, hcode⟩, i, g, hi, hblk⟩ := h
  refine ⟨⟨hl, fun h0 => ?_⟩, i, g, hi, (hp.other p (fun e => hbp e.symm)).trans hblk⟩
  obtain ⟨b1, off, e, hn, hb, hcells⟩ := hcode h0
  obtain ⟨b2, off2, e2, _, hb2, _⟩ := hc.2 h0
  obtain rfl : b1 = b2 := by
    have := e.symm.trans e2
    injection this with this
    injection this
  have hh := hp.other b1 (by omega)
  refine ⟨b1, off, e, hn, Nat.lt_of_lt_of_le hb hp.below.size, fun j hj => ?_⟩
  obtain ⟨z, h1, h2, h3⟩ := hcells j hj
  exact ⟨z, h1, h2, by rw [show w'.cell? ⟨b1, off + j, none⟩ = w.cell? ⟨b1, off + j, none⟩ by simp [World.cell?, hh]]; exact h3⟩
/-- One of some numbers that lie in a block. -/
theorem pickAt (lo hi : Int) (n : Nat) (hn0 : 0 < n) (hn : (n : Int) ≤ 9223372036854775807) (w : World) (p q : Nat) (a : Option Addr) (len cap : Nat) (vs : Array Value) (T : TypeId) (hX : Bx T w q vs) (hq : q ≠ p) (hs : vs.size = n) (ha : vs.toList.all (okInt lo hi) = true) (hc : Cur w p a len cap) :
    Calls Try.prog 74 #[.pointer (some ⟨p, 0, none⟩), .slice (some ⟨q, 0, none⟩) n n] w (IntPost lo hi p a len cap w) := by
  refine (pickInt (fun z => lo ≤ z ∧ z ≤ hi) n hn0 hn _ p q a len cap n ⟨hq, hX.lt, fun i hi => ⟨vs[i]'(by omega), of_okInt (List.all_eq_true.1 ha _ (by simp)), ?_⟩⟩ hc).mono ?_
  · rw [hX.cell i]; simp [show i < vs.size by omega]
  · rintro e w1 ⟨v, rfl, ⟨z, rfl, h1, h2⟩, hk, hc1⟩
    exact ⟨z, rfl, h1, h2, hk, hc1⟩
theorem dr_same {p : Nat} {a : Option Addr} {len cap : Nat} {w : World} (hc : Cur w p a len cap) : Dr p a len cap w w := ⟨Keep.refl p w, hc⟩
theorem dr_below {p : Nat} {a : Option Addr} {len cap : Nat} {w w' : World} (hc : Cur w p a len cap) (hb : Below w.heap.size w w') : Dr p a len cap w w' := ⟨later (Keep.refl p w) (Nat.le_refl _) hb, cur_below hc hb⟩
end Go.Proofs.Ytjmenbpalihnnaa.stw
end

section
namespace Go.Proofs.Ytjmenbpalihnnaa.rgf
open Go Go.RowKit sl harn bx mrw
set_option linter.unusedVariables false

abbrev Rel := World → World → Prop
def Sb (p : Value → World → Prop) (e : Rel) : Prop := ∀ v w w', p v w → e w w' → p v w'
def AllC (C : World → Prop) : List Rel → Prop
  | [] => True
  | e :: r => (∀ w w', C w → e w w' → C w') ∧ AllC C r
def AllS (p : Value → World → Prop) (j : Nat) : Nat → List Rel → Prop
  | _, [] => True
  | k, e :: r => (k ≠ j → Sb p e) ∧ AllS p j (k + 1) r
/-- What is right of the value of operation j and stays so under what the others may do. -/
structure Sx (d : Rel) (Es : List Rel) (j : Nat) where
  p : Value → World → Prop
  hd : Sb p d
  hs : AllS p j 0 Es
theorem allS_pure {p : Value → Prop} {j : Nat} : ∀ (k : Nat) (Es : List Rel), AllS (fun v _ => p v) j k Es
  | _, [] => trivial
  | k, e :: r => ⟨fun _ _ _ _ h _ => h, allS_pure (k + 1) r⟩
def pureS {d : Rel} {Es : List Rel} {j : Nat} (x : Value) : Sx d Es j := ⟨fun v _ => v = x, fun _ _ _ h _ => h, allS_pure (p := fun v => v = x) 0 Es⟩
def freeS {d : Rel} {Es : List Rel} {j : Nat} : Sx d Es j := ⟨fun _ _ => True, fun _ _ _ h _ => h, allS_pure (p := fun _ => True) 0 Es⟩
theorem allS_get {p : Value → World → Prop} {j : Nat} : ∀ {Es : List Rel} {k i : Nat} {e : Rel}, AllS p j k Es → Es[i]? = some e → k + i ≠ j → Sb p e
  | [], _, _, _, _, h, _ => by simp at h
  | e :: r, k, 0, e', h, he, hne => by
    obtain rfl : e = e' := by simpa using he
    exact h.1 hne
  | e :: r, k, i + 1, e', h, he, hne => allS_get (k := k + 1) (i := i) h.2 (by simpa using he) (by omega)
theorem allC_get {C : World → Prop} : ∀ {Es : List Rel} {i : Nat} {e : Rel}, AllC C Es → Es[i]? = some e → ∀ w w', C w → e w w' → C w'
  | [], _, _, _, h => by simp at h
  | e :: r, 0, e', h, he => by
    obtain rfl : e = e' := by simpa using he
    exact h.1
  | e :: r, i + 1, e', h, he => allC_get (i := i) h.2 (by simpa using he)
section
variable {d : Rel} {Es : List Rel} {f : (j : Nat) → Sx d Es j}
theorem stab : ∀ i j v w w', i ≠ j → (f j).p v w → (Es.getD i d) w w' → (f j).p v w' := by
  intro i j v w w' hij hp he
  cases hi : Es[i]? with
  | none =>
    rw [List.getD_eq_getElem?_getD, hi] at he
    exact (f j).hd v w w' hp he
  | some e =>
    rw [List.getD_eq_getElem?_getD, hi] at he
    exact allS_get (k := 0) (f j).hs hi (by omega) v w w' hp he
theorem stabC {C : World → Prop} (h0 : ∀ w w', C w → d w w' → C w') (h : AllC C Es) : ∀ i w w', C w → (Es.getD i d) w w' → C w' := by
  intro i w w' hc he
  cases hi : Es[i]? with
  | none => rw [List.getD_eq_getElem?_getD, hi] at he; exact h0 w w' hc he
  | some e => rw [List.getD_eq_getElem?_getD, hi] at he; exact allC_get h hi w w' hc he
end
variable {P : Program} {Q : Exit → Act → World → Prop} {a0 : Act}
theorem region_tail {id : Nat} {l : List Oper} {w : World} (d : Rel) (Es : List Rel) (f : (j : Nat) → Sx d Es j) (s N : Nat) (nd : List (Option (List (Nat × Tmp)))) (hd : List (Nat × Tmp)) (C : World → Prop) (hm : P.follows .mixedOrders = true) (hs : decide (s < l.length) = true) (hB : reg.okB l.toArray s N [] nd = true)
    (hT : Region.seqB .any l.toArray (l.length - s) s (reg.upTo l.length s) = true) (hN : a0.tmps.size = N) (h0C : ∀ w w', C w → d w w' → C w') (hC : AllC C Es) (h0 : C w.drew) (hH : reg.heads l.toArray s = hd) (hA : reg.All (fun i => Es.getD i d) [] P l.toArray (fun j v w => (f j).p v w) C a0 0 l nd)
    (hF : ∀ w, C w → reg.Obs l.toArray (fun j v w => (f j).p v w) w (fun c => wpList P l.toArray Q (l.drop s) c w) hd a0) : (Code.region id l.toArray true).wp P Q a0 w :=
  rgp.region_tailE (fun i => Es.getD i d) s N nd hd C _ hm hs hB hT hN (stabC h0C hC) stab h0 hH hA hF
theorem region_free {id : Nat} {l : List Oper} {w : World} (d : Rel) (Es : List Rel) (f : (j : Nat) → Sx d Es j) (N : Nat) (rf : List (Nat × Tmp)) (nd : List (Option (List (Nat × Tmp)))) (hd : List (Nat × Tmp)) (C : World → Prop) (hm : P.follows .mixedOrders = true) (hB : reg.okB l.toArray l.length N rf nd = true) (hN : a0.tmps.size = N)
    (h0C : ∀ w w', C w → d w w' → C w') (hC : AllC C Es) (h0 : C w.drew) (hH : reg.heads l.toArray l.length = hd) (hA : reg.All (fun i => Es.getD i d) rf P l.toArray (fun j v w => (f j).p v w) C a0 0 l nd)
    (hF : ∀ w, C w → reg.Obs l.toArray (fun j v w => (f j).p v w) w (fun c => (∀ x ∈ rf, rf.lookup x.1 = some x.2 → (f x.1).p (reg.look c (some x.2)) w) → Q .normal c w) hd a0) : (Code.region id l.toArray true).wp P Q a0 w :=
  reg.region_free (fun i => Es.getD i d) N rf nd hd C _ hm hB hN (stabC h0C hC) stab h0 hH hA hF
end Go.Proofs.Ytjmenbpalihnnaa.rgf
end

section
namespace Go.Proofs.Ytjmenbpalihnnaa.reg
open Go Go.RowKit
set_option linter.unusedVariables false

section
variable {P : Program} {ops : Array Oper} {Q : Exit → Act → World → Prop} {C : World → Prop} {R : Nat → Value → World → Prop} {a0 : Act} {E : Nat → World → World → Prop} {rf : List (Nat × Tmp)}
theorem step_opU {l : List Oper} {s N : Nat} {nd : List (Option (List (Nat × Tmp)))} (H : Ok l.toArray s N rf nd) (hN : a0.tmps.size = N) (hC : ∀ i w w', C w → E i w w' → C w') (hR : ∀ i j v w w', i ≠ j → R j v w → E i w w' → R j v w')
    {L : Array Bool} {a : Act} {w : World} (I : Inv rf C R l.toArray a0 s L a w) {i : Nat} (his : i < s) (hr : i ∈ Region.ready .any l.toArray L)
    (hob : ∀ o d, l.toArray[i]? = some o → nd[i]? = some (some d) → Obs l.toArray R w (fun c => ∀ K : Act → World → Prop, (∀ v w', R i (told rf c i v o.dst) w' → E i w w' → K (c.put o.dst v) w') → if Region.wanted o (yielded l.toArray c.tmps) = true then Oper.wp P o c w K QF else K (c.put o.dst undef) w) d a0) {K : Act → World → Prop}
    (hK : ∀ a' w', Inv rf C R l.toArray a0 s (L.setIfInBounds i true) a' w' → E i w w' → K a' w') : wpOp P l.toArray Q i K a w := by
  obtain ⟨hun, o, ho, hall⟩ := mem_ready.1 hr
  have hd : dst l.toArray i = o.dst := by unfold dst; rw [ho]; rfl
  obtain ⟨d, hnd, hdep, hlook⟩ := H.need i o ho his
  have hlist : ∀ j ∈ d, L.getD j.1 false = true := fun j hj => by
    obtain ⟨e, he, hb, hon⟩ := edge_of (hdep j hj).1 ho
    rw [← hon]; exact hall e he hb
  have hc := obs_puts (a := a) _ _ (hob o d ho hnd) fun j hj => by
    have := I.right j.1 (hlist j hj) (by rw [(hdep j hj).2.1]; rfl)
    rwa [(hdep j hj).2.1] at this
  have hcs : (puts l.toArray a d a0).tmps.size = a.tmps.size := by rw [puts_size]; exact I.size.symm
  have hag : ∀ k ∈ o.looksAt l.toArray, a.tmps.getD k undef = (puts l.toArray a d a0).tmps.getD k undef := fun k hk => by
    rcases hlook k hk with h | h
    · exact (puts_in a d a0 I.size h).symm
    · refine (puts_kept a d a0 I.size (I.base k fun j hl => h j ?_).symm).symm
      rcases Nat.lt_or_ge j s with h' | h'
      · exact h'
      · rw [I.tail j h'] at hl; cases hl
  have hsel := Region.noSelect_spec H.sel i o
  have h1 := hc (fun a' w' => ∃ v, a' = (puts l.toArray a d a0).put o.dst v ∧ R i (told rf (puts l.toArray a d a0) i v o.dst) w' ∧ E i w w') fun v w' h2 h3 => ⟨v, rfl, h2, h3⟩
  have fin : ∀ v w', (∃ v', (puts l.toArray a d a0).put o.dst v = (puts l.toArray a d a0).put o.dst v' ∧ R i (told rf (puts l.toArray a d a0) i v' o.dst) w' ∧ E i w w') → K (a.put o.dst v) w' := fun v w' ⟨v', e, h2, h3⟩ =>
    hK _ _ (inv_step H hN hC hR I ho his hr (fun hsm => by
      rw [hd] at hsm ⊢
      cases hx' : o.dst with
      | some x =>
        rw [hx'] at e h2
        have hx : dst l.toArray i = some x := by rw [hd]; exact hx'
        have hlt : x < (puts l.toArray a d a0).tmps.size := by rw [puts_size, hN]; exact H.room i x hx
        have h4 : ((puts l.toArray a d a0).put (some x) v).tmps.getD x undef = ((puts l.toArray a d a0).put (some x) v').tmps.getD x undef := by rw [e]
        rw [put_at hlt, put_at hlt] at h4
        show R i v w'
        rw [h4]; exact h2
      | none =>
        rw [hx'] at h2 hsm
        show R i (look a (rf.lookup i)) w'
        have h2' : R i (look (puts l.toArray a d a0) (rf.lookup i)) w' := h2
        obtain ⟨x, hx⟩ := Option.isSome_iff_exists.1 hsm
        have hx2 : rf.lookup i = some x := hx
        rw [hx2] at h2' ⊢
        obtain ⟨_, _, l', k, hl1, hkl⟩ := H.refs i x hx2
        obtain rfl : l' = d := by simpa using hl1.symm.trans hnd
        have e2 : (puts l.toArray a l' a0).tmps.getD x undef = a.tmps.getD x undef := puts_in a l' a0 I.size ⟨(k, x), hkl, rfl⟩
        have e3 : look (puts l.toArray a l' a0) (some x) = look a (some x) := e2
        rw [← e3]; exact h2') h3) h3
  unfold wpOp
  rw [ho]
  simp only
  rw [wanted_same hcs.symm hag]
  split
  · rename_i hw
    rw [if_pos hw] at h1
    refine .inl ?_
    unfold Oper.wp at h1 ⊢
    rw [exec_same (fun cs b => hsel cs b ho) hag]
    refine upon_move fin (fun dd w' hh => ?_) h1
    obtain ⟨v', e, _⟩ := hh
    have := congrArg Act.defers e
    rw [put_defers, put_defers] at this
    exact absurd (congrArg List.length this) (by simp)
  · rename_i hw
    rw [if_neg hw] at h1
    exact fin _ _ h1


/-- One operation's duty, told what holds as long as it is not done. -/
def ObU (U : Nat → World → Prop) (E : Nat → World → World → Prop) (rf : List (Nat × Tmp)) (P : Program) (ops : Array Oper) (R : Nat → Value → World → Prop) (C : World → Prop) (a0 : Act) (i : Nat) (o : Oper) (d : List (Nat × Tmp)) : Prop :=
  ∀ w, C w → U i w → Obs ops R w (fun c => ∀ K : Act → World → Prop, (∀ v w', R i (told rf c i v o.dst) w' → E i w w' → K (c.put o.dst v) w') →
    if Region.wanted o (yielded ops c.tmps) = true then Oper.wp P o c w K QF else K (c.put o.dst undef) w) d a0
def AllU (U : Nat → World → Prop) (E : Nat → World → World → Prop) (rf : List (Nat × Tmp)) (P : Program) (ops : Array Oper) (R : Nat → Value → World → Prop) (C : World → Prop) (a0 : Act) : Nat → List Oper → List (Option (List (Nat × Tmp))) → Prop
  | i, o :: l, some d :: nd => ObU U E rf P ops R C a0 i o d ∧ AllU U E rf P ops R C a0 (i + 1) l nd
  | i, _ :: l, none :: nd => AllU U E rf P ops R C a0 (i + 1) l nd
  | _, _, _ => True
theorem all_getU {U : Nat → World → Prop} : ∀ (l : List Oper) (nd : List (Option (List (Nat × Tmp)))) (k : Nat), AllU U E rf P ops R C a0 k l nd → ∀ (i : Nat) (o : Oper) (d : List (Nat × Tmp)), l[i]? = some o → nd[i]? = some (some d) → ObU U E rf P ops R C a0 (k + i) o d
  | [], _, _, _, i, o, d, ho, _ => by simp at ho
  | o :: l, [], _, _, i, _, d, _, hd => by simp at hd
  | o :: l, none :: nd, k, h, 0, _, d, _, hd => by simp at hd
  | o :: l, none :: nd, k, h, i + 1, o', d, ho, hd => by
    have := all_getU l nd (k + 1) h i o' d (by simpa using ho) (by simpa using hd)
    rwa [show k + 1 + i = k + (i + 1) by omega] at this
  | o :: l, some e :: nd, k, h, 0, o', d, ho, hd => by
    simp at ho hd
    subst ho hd
    exact h.1
  | o :: l, some e :: nd, k, h, i + 1, o', d, ho, hd => by
    have := all_getU l nd (k + 1) h.2 i o' d (by simpa using ho) (by simpa using hd)
    rwa [show k + 1 + i = k + (i + 1) by omega] at this
theorem u_step {U : Nat → World → Prop} (hU : ∀ i j w w', i ≠ j → U j w → E i w w' → U j w') {L : Array Bool} {i : Nat} {w w' : World} (hi : i < L.size) (h : ∀ j, L.getD j false = false → U j w) (he : E i w w') : ∀ j, (L.setIfInBounds i true).getD j false = false → U j w' := by
  intro j hj
  by_cases hij : i = j
  · subst hij
    rw [set_at hi] at hj; cases hj
  · rw [getD_set_ne false hij] at hj
    exact hU i j w w' hij (h j hj) he
theorem any_plainU {U : Nat → World → Prop} {l : List Oper} {N : Nat} {nd : List (Option (List (Nat × Tmp)))} (H : Ok l.toArray l.length N rf nd) (hN : a0.tmps.size = N) (hC : ∀ i w w', C w → E i w w' → C w') (hR : ∀ i j v w w', i ≠ j → R j v w → E i w w' → R j v w') (hU : ∀ i j w w', i ≠ j → U j w → E i w w' → U j w')
    (hA : AllU U E rf P l.toArray R C a0 0 l nd) (hF : ∀ w, C w → Obs l.toArray R w (fun c => (∀ x ∈ rf, rf.lookup x.1 = some x.2 → R x.1 (look c (some x.2)) w) → Q .normal c w) (heads l.toArray l.length) a0) : ∀ (fuel : Nat) (L : Array Bool) (a : Act) (w : World), L.toList.count false ≤ fuel → Inv rf C R l.toArray a0 l.length L a w → (∀ j, L.getD j false = false → U j w) →
    wpAny P .any l.toArray Q fuel L a w := by
  intro fuel
  have fin : ∀ (L : Array Bool) (a : Act) (w : World), Region.ready .any l.toArray L = [] → Inv rf C R l.toArray a0 l.length L a w → Q .normal a w := fun L a w h0 I => by
    have hall : ∀ i, i < l.toArray.size → L.getD i false = true := fun i hi => by
      cases hx : L.getD i false with
      | true => rfl
      | false => exact absurd h0 (some_ready H I.len (i + 1) i (by omega) hi (getD_in (by rw [I.len]; exact hi) hx))
    refine all_done H I (fun i _ hi => hall i hi) (hF w I.c) fun x hx hlk => ?_
    obtain ⟨h1, h2, _⟩ := H.refs x.1 x.2 hlk
    have := I.right x.1 (hall x.1 (by simpa using h2)) (by rw [h1]; simp only [slot, hlk]; rfl)
    rw [h1] at this
    simp only [slot, hlk] at this
    exact this
  induction fuel with
  | zero =>
    intro L a w hc I hu
    have h0 : Region.ready .any l.toArray L = [] := List.eq_nil_iff_forall_not_mem.2 fun i hi => by
      have := (mem_ready.1 hi).1
      rw [none_left (by omega) i] at this; cases this
    exact ⟨h0, fin L a w h0 I⟩
  | succ fuel ih =>
    intro L a w hc I hu
    refine ⟨fun h0 => fin L a w h0 I, fun i hi => ?_⟩
    obtain ⟨hun, o, ho, _⟩ := mem_ready.1 hi
    have hin : i < l.toArray.size := (Array.getElem?_eq_some_iff.1 ho).1
    have hiL : i < L.size := by rw [I.len]; exact hin
    have hf : L.getD i false = false := getD_both hun
    refine step_opU H hN hC hR I (by simpa using hin) hi (fun o' d ho' hnd => ?_) fun a' w' I' he => ih _ _ _ (by have := count_set hun; omega) I' (u_step hU hiL hu he)
    have := all_getU l nd 0 hA i o' d (by simpa using ho') hnd
    rw [Nat.zero_add] at this
    exact this w I.c (hu i hf)
theorem inv_startU {U : Nat → World → Prop} {n : Nat} {w : World} (h : ∀ j, U j w) : ∀ j, (Array.replicate n false).getD j false = false → U j w := fun j _ => h j
end
end Go.Proofs.Ytjmenbpalihnnaa.reg
namespace Go.Proofs.Ytjmenbpalihnnaa.rgf
open Go Go.RowKit sl harn bx mrw
set_option linter.unusedVariables false
variable {P : Program} {Q : Exit → Act → World → Prop} {a0 : Act}
/-- The rule: u: an operation of which Uo says what holds as long as it is not done. -/
theorem region_freeU {id : Nat} {l : List Oper} {w : World} (d : Rel) (Es : List Rel) (f : (j : Nat) → Sx d Es j) (u : Nat) (Uo : Sx d Es u) (N : Nat) (rf : List (Nat × Tmp)) (nd : List (Option (List (Nat × Tmp)))) (hd : List (Nat × Tmp)) (C : World → Prop) (hm : P.follows .mixedOrders = true) (hB : reg.okB l.toArray l.length N rf nd = true) (hN : a0.tmps.size = N)
    (h0C : ∀ w w', C w → d w w' → C w') (hC : AllC C Es) (h0 : C w.drew) (hU0 : Uo.p undef w.drew) (hH : reg.heads l.toArray l.length = hd) (hA : reg.AllU (fun i w => i = u → Uo.p undef w) (fun i => Es.getD i d) rf P l.toArray (fun j v w => (f j).p v w) C a0 0 l nd)
    (hF : ∀ w, C w → reg.Obs l.toArray (fun j v w => (f j).p v w) w (fun c => (∀ x ∈ rf, rf.lookup x.1 = some x.2 → (f x.1).p (reg.look c (some x.2)) w) → Q .normal c w) hd a0) : (Code.region id l.toArray true).wp P Q a0 w :=
  wp_region_any hm (by
    subst hH
    refine reg.any_plainU (U := fun i w => i = u → Uo.p undef w) (Q := Q) (reg.ok_of hB) hN (stabC h0C hC) (stab (f := f)) (fun i j w w' hij hu he hj => ?_) hA hF _ _ a0 w.drew (by simp) (reg.inv_start h0) (reg.inv_startU (U := fun i w => i = u → Uo.p undef w) fun j _ => hU0)
    subst hj
    exact stab (f := fun k => if h : k = j then h ▸ Uo else freeS) i j undef w w' hij (by simpa using hu rfl) he |> fun q => by simpa using q)
end Go.Proofs.Ytjmenbpalihnnaa.rgf
end

section
namespace Go.Proofs.Ytjmenbpalihnnaa.mrw
open Go.RowKit sl harn bx
set_option linter.unusedVariables false
set_option linter.unusedSimpArgs false

section
variable {α : Type} {S : Sh α} {w w' : World} {lo hi n cap : Nat} {A : Option Addr} {xs : List α} {es : List (El α)}
theorem Oe.more2 {P : Program} (t ty : TypeId) (i : TypeInfo) (z : Value) (h1 : P.underlying t = some (.slice S.T)) (h2 : P.info? S.T = some i) (h3 : i.zero = some z) (h4 : i.size = S.s) (h5 : i.bytes ≤ 128) (h6 : z.cells.size = S.s)
    (h : Oe S w lo hi A n cap es) (ad : Addr) (m c : Nat) (fs : List (El α)) (hm : fs.length = m) (hsrc : ∀ j u, (flat S fs)[j]? = some u → w.cell? (ad.add j) = some u)
    (hb : ∀ f ∈ fs, ∃ lo2 hi2, lo ≤ lo2 ∧ Ow 5 .u8 w lo2 hi2 f.A f.n f.c (S.B f.x)) (hd : Ds (es ++ fs)) (hn : n + m ≤ 1073741824) (hlo : lo ≤ w.heap.size) :
    ∃ A' cap' w', (Builtin.append_ #[t, t] ty #[.slice A n cap, .slice (some ad) m c]).run P w = .ok (.slice A' (n + m) cap') w' ∧ Oe S w' lo w'.heap.size A' (n + m) cap' (es ++ fs) ∧ w.grownBy w' (blkOf A) ∧ (blkOf A' = blkOf A ∨ ∀ q, blkOf A' = some q → w.heap.size ≤ q) ∧
      (∀ lo' hi' A2 n2 c2 es2, n2 ≤ n → Oe S w lo' hi' A2 n2 c2 es2 → Oe S w' lo' hi' A2 n2 c2 es2) ∧ ((m = 0 ∨ cap < n + m) → Below w.heap.size w w') := by
  have hb8 : (n + m) * i.bytes ≤ 140737488355328 := by
    have := Nat.mul_le_mul hn h5
    omega
  obtain ⟨A', cap', w', hrun, g1, g2, _, g4⟩ := h.more (P := P) t ty i z h1 h2 h3 h4 h5 h6 ad m c fs hm hsrc hb hd hn hlo
  have same : ∀ {v : Value} {u : World}, (Builtin.append_ #[t, t] ty #[.slice A n cap, .slice (some ad) m c]).run P w = .ok v u → w' = u := by
    intro v u hu
    rw [hrun] at hu
    injection hu
  refine ⟨A', cap', w', hrun, g1, g2, g4, ?_⟩
  have fresh : Below w.heap.size w w' → (∀ lo' hi' A2 n2 c2 es2, n2 ≤ n → Oe S w lo' hi' A2 n2 c2 es2 → Oe S w' lo' hi' A2 n2 c2 es2) ∧ ((m = 0 ∨ cap < n + m) → Below w.heap.size w w') := fun hB => ⟨fun _ _ _ _ _ _ _ ho => ho.below hB, fun _ => hB⟩
  by_cases hm0 : m = 0
  · subst hm0
    have hf : fs = [] := List.eq_nil_of_length_eq_zero hm
    subst hf
    refine fresh ?_
    have : (Builtin.append_ #[t, t] ty #[.slice A n cap, .slice (some ad) 0 c]).run P w = .ok (.slice A n cap) w := by
      rcases h.form with ⟨rfl, rfl, rfl⟩ | ⟨g, cur, rfl, _, _, _, hnc, _⟩
      · simp [Builtin.append_, run_underlying h1, sizeOf, typeInfo, h2, Builtin.lenOf, Builtin.firstCells, loadCells, loadCellsFrom]
      · simp [Builtin.append_, run_underlying h1, sizeOf, typeInfo, h2, Builtin.lenOf, Builtin.firstCells, hnc, storeCells, loadCells, loadCellsFrom]
    rw [same this]
    exact Below.refl _ _
  · rcases h.form with ⟨rfl, rfl, rfl⟩ | ⟨g, cur, rfl, hg1, hg2, hcur, hnc, hcm, hcs, htake⟩
    · refine fresh ?_
      have hr := run_append_nil (P := P) w t ty S.T i z h1 h2 h3 ad m c (flat S fs) (by rw [flat_len, hm, h4]) hsrc (by omega) (by omega) (by have hb := hb8; simp only [Nat.zero_add] at hb; omega)
      rw [same hr]
      exact ⟨rfl, rfl, rfl, by simp, fun k hk => heap_alloc_old w.drew _ hk⟩
    · by_cases hroom : n + m ≤ cap
      · obtain ⟨u, hr, k1, k2⟩ := run_append_fits (P := P) w lo t ty S.T i S.s h1 h2 h4 g n cap (flat S es) h.row ad m c (flat S fs) (by rw [flat_len, hm]) hsrc (flat_one S fs) hroom
        obtain rfl := same hr
        obtain ⟨cur', q1, q2, q3, q4, q5, q6⟩ := row_at k1
        refine ⟨fun lo' hi' A2 n2 c2 es2 hn2 ho => ?_, fun hh => by omega⟩
        have hbody : ∀ e ∈ es2, Ow 5 .u8 w' lo' hi' e.A e.n e.c (S.B e.x) := fun e he => ow_grown h g2 (ho.body e he)
        refine ⟨⟨ho.row.1, ?_⟩, hbody, ho.ds, by have := ho.hi_; have := g2.size; omega, ho.lt⟩
        rcases ho.row.2 with r0 | ⟨g', c', cur2, e, r1, r2, r3, r4, r5, r6⟩
        · exact Or.inl r0
        · by_cases hgg : g' = g
          · subst hgg
            rw [hcur] at r2
            simp only [Option.some.injEq, Obj.cells.injEq] at r2
            obtain ⟨rfl, _⟩ := r2
            have ec : c' = cap := Nat.eq_of_mul_eq_mul_right S.pos (by rw [← r5, hcs])
            refine Or.inr ⟨g', c', cur', e, r1, q1, r3, r4, by rw [q5, ec], ?_⟩
            have e1 := congrArg (List.take (n2 * S.s)) q6
            rw [List.take_take, Nat.min_eq_left (Nat.mul_le_mul_right _ (by omega)), List.take_append_of_le_length (by rw [flat_len, h.len]; exact Nat.mul_le_mul_right _ hn2)] at e1
            rw [e1, ← htake, List.take_take, Nat.min_eq_left (Nat.mul_le_mul_right _ hn2)]
            exact r6
          · refine Or.inr ⟨g', c', cur2, e, r1, ?_, r3, r4, r5, r6⟩
            rw [g2.block g' (lt_of_block r2) (by simpa using hgg)]
            exact r2
      · refine fresh ?_
        have holds : ∀ j u, (flat S es)[j]? = some u → w.cell? ((⟨g, 0, none⟩ : Addr).add j) = some u := h.row.cells (g := g) rfl
        have hr := run_append_grow (P := P) w t ty S.T i z h1 h2 h3 ⟨g, 0, none⟩ n cap (flat S es) (by rw [h4]; exact h.row.1) holds ad m c (flat S fs) (by rw [flat_len, hm, h4]) hsrc (by omega) (by omega) (growslice_fits (by omega) hb8)
        rw [same hr]
        exact ⟨rfl, rfl, rfl, by simp, fun k hk => heap_alloc_old w.drew _ hk⟩
end
end Go.Proofs.Ytjmenbpalihnnaa.mrw
namespace Go.Proofs.Ytjmenbpalihnnaa.rgf
open Go Go.RowKit sl harn bx mrw
set_option linter.unusedVariables false
section
variable {α : Type} {S : Sh α}
/-- The worlds behind B in which short rows stay. -/
def Kp (S : Sh α) (B z : Nat) : Rel := fun ua ub => Below B ua ub ∧ ∀ lo' hi' A' n' c' es', n' ≤ z → Oe S ua lo' hi' A' n' c' es' → Oe S ub lo' hi' A' n' c' es'
/-- A row of the call's own above B. -/
def rowB (S : Sh α) (lo B n : Nat) (es : List (El α)) (v : Value) (w : World) : Prop := ∃ A c hi, v = .slice A n c ∧ Oe S w lo hi A n c es ∧ ∀ q, blkOf A = some q → B ≤ q
/-- The same, without spare cells. -/
def rowE (S : Sh α) (lo B : Nat) (v : Value) (w : World) : Prop := ∃ q hi, v = .slice (some ⟨q, 0, none⟩) 0 0 ∧ Oe S w lo hi (some ⟨q, 0, none⟩) 0 0 [] ∧ B ≤ q
theorem rowB_below {lo B n : Nat} {es : List (El α)} : Sb (rowB S lo B n es) reg.Bel := fun v w w' ⟨A, c, hi, e, ho, hq⟩ hb => ⟨A, c, hi, e, ho.below hb, hq⟩
theorem rowE_below {lo B : Nat} : Sb (rowE S lo B) reg.Bel := fun v w w' ⟨q, hi, e, ho, hq⟩ hb => ⟨q, hi, e, ho.below hb, hq⟩
theorem rowB_kp {lo B n z : Nat} {es : List (El α)} (hn : n ≤ z) : Sb (rowB S lo B n es) (Kp S B z) := fun v w w' ⟨A, c, hi, e, ho, hq⟩ hb => ⟨A, c, hi, e, hb.2 _ _ _ _ _ _ hn ho, hq⟩
theorem rowE_kp {lo B z : Nat} : Sb (rowE S lo B) (Kp S B z) := fun v w w' ⟨q, hi, e, ho, hq⟩ hb => ⟨q, hi, e, hb.2 _ _ _ _ _ _ (Nat.zero_le _) ho, hq⟩
/-- The first append: onto the empty row. -/
theorem wp_first {P : Program} {o : Oper} {a : Act} {w : World} {K : Act → World → Prop} {Q : Exit → Act → World → Prop} (s x : Operand) (t : TypeId)
    (hop : o.op = .call { callee := .builtin .append, args := #[s, x], argTypes := #[t, t] })
    {i : TypeInfo} {z : Value} (h1 : P.underlying t = some (.slice S.T)) (h2 : P.info? S.T = some i) (h3 : i.zero = some z) (h4 : i.size = S.s) (h5 : i.bytes ≤ 128) (h6 : z.cells.size = S.s)
    {lo hi0 hi n q B : Nat} {es : List (El α)} {g cp k : Nat} (hs : a.eval s = .slice (some ⟨q, 0, none⟩) 0 0) (hx : a.eval x = .slice (some ⟨g, 0, none⟩) k cp) (h0 : Oe S w lo hi0 (some ⟨q, 0, none⟩) 0 0 []) (hB : B ≤ q) (hBw : B ≤ w.heap.size) (ho : Oe S w lo hi (some ⟨g, 0, none⟩) n cp es) (hk : k ≤ n) (hn : n ≤ 1073741824) (hlo : lo ≤ w.heap.size)
    (hK : ∀ v w', rowB S lo B k (es.take k) v w' → Below w.heap.size w w' → K (a.put o.dst v) w') : Oper.wp P o a w K Q := by
  have hl := ho.len
  obtain ⟨A', cap', w', hrun, g1, g2, g4, _, g6⟩ := h0.more2 (P := P) t o.type i z h1 h2 h3 h4 h5 h6 ⟨g, 0, none⟩ k cp (es.take k) (by rw [List.length_take]; omega) (fun j u hu => by
    rw [← flat_take, List.getElem?_take] at hu
    split at hu
    · exact ho.row.cells (g := g) rfl j u hu
    · cases hu) (fun f hf => ⟨lo, hi, Nat.le_refl _, ho.body f (List.mem_of_mem_take hf)⟩) (by rw [List.nil_append]; exact List.Pairwise.sublist (List.take_sublist _ _) ho.ds) (by omega) hlo
  rw [Nat.zero_add, List.nil_append] at g1
  unfold Oper.wp execOp
  simp only [hop, resolve, invoke, builtin, Sem.run_bind, Sem.run_pure, Result.andThen_ok, List.map_toArray, List.map_cons, List.map_nil, hs, hx, hrun]
  rw [Nat.zero_add]
  refine hK _ w' ⟨A', cap', _, rfl, g1, fun q' hq' => ?_⟩ (g6 (by omega))
  rcases g4 with g4 | g4
  · rw [g4] at hq'
    have : q = q' := by simpa using hq'
    omega
  · have := g4 q' hq'; omega
/-- The second append: the last part. -/
theorem wp_second {P : Program} {o : Oper} {a : Act} {w : World} {K : Act → World → Prop} {Q : Exit → Act → World → Prop} (s x : Operand) (t : TypeId)
    (hop : o.op = .call { callee := .builtin .append, args := #[s, x], argTypes := #[t, t] })
    {i : TypeInfo} {z : Value} (h1 : P.underlying t = some (.slice S.T)) (h2 : P.info? S.T = some i) (h3 : i.zero = some z) (h4 : i.size = S.s) (h5 : i.bytes ≤ 128) (h6 : z.cells.size = S.s)
    {lo hi0 hi n c B : Nat} {A : Option Addr} {es : List (El α)} {g cp k m c2 : Nat} {ad : Addr} (hs : a.eval s = .slice A k c) (hx : a.eval x = .slice (some ad) m c2) (h0 : Oe S w lo hi0 A k c (es.take k)) (hB : ∀ q, blkOf A = some q → B ≤ q) (hBw : B ≤ w.heap.size) (ho : Oe S w lo hi (some ⟨g, 0, none⟩) n cp es) (hk : k < n) (hm : m = n - (k + 1)) (had : k + 1 < n → ad = ⟨g, (k + 1) * S.s, none⟩) (hn : n ≤ 1073741824) (hlo : lo ≤ w.heap.size)
    (hK : ∀ v w', rowB S lo B (n - 1) (es.eraseIdx k) v w' → Kp S B k w w' → K (a.put o.dst v) w') : Oper.wp P o a w K Q := by
  subst hm
  have hl := ho.len
  have hfl : (es.drop (k + 1)).length = n - (k + 1) := by rw [List.length_drop, hl]
  have e : k + (n - (k + 1)) = n - 1 := by omega
  obtain ⟨A', cap', w', hrun, g1, g2, g4, g5, _⟩ := h0.more2 (P := P) t o.type i z h1 h2 h3 h4 h5 h6 ad (n - (k + 1)) c2 (es.drop (k + 1)) hfl (fun q u hu => by
    have hq := (List.getElem?_eq_some_iff.1 hu).1
    rw [flat_len, hfl] at hq
    have hlt : k + 1 < n := by
      rcases Nat.lt_or_ge (k + 1) n with h | h
      · exact h
      · rw [show n - (k + 1) = 0 by omega] at hq; omega
    rw [had hlt, Addr.add_mid]
    rw [← flat_drop, List.getElem?_drop] at hu
    rw [ho.row.cellAt _ (by
      have : (n - (k + 1)) * S.s + (k + 1) * S.s = n * S.s := by rw [← Nat.add_mul]; congr 1; omega
      omega)]
    exact hu) (fun f hf => ⟨lo, hi, Nat.le_refl _, ho.body f (List.mem_of_mem_drop hf)⟩) (by rw [← List.eraseIdx_eq_take_drop_succ]; exact List.Pairwise.sublist (List.eraseIdx_sublist _ _) ho.ds) (by omega) hlo
  rw [← List.eraseIdx_eq_take_drop_succ] at g1
  rw [e] at hrun g1
  unfold Oper.wp execOp
  simp only [hop, resolve, invoke, builtin, Sem.run_bind, Sem.run_pure, Result.andThen_ok, List.map_toArray, List.map_cons, List.map_nil, hs, hx, hrun]
  refine hK _ w' ⟨A', cap', _, rfl, g1, fun q' hq' => ?_⟩ ⟨(Below.refl B w).grown g2 hBw hB, g5⟩
  rcases g4 with g4 | g4
  · rw [g4] at hq'; exact hB q' hq'
  · have := g4 q' hq'; omega
end
end Go.Proofs.Ytjmenbpalihnnaa.rgf
end

section
namespace Go.Proofs.Ytjmenbpalihnnaa.enc

/-- The varint of a number. -/
def enc (n : Nat) : List Int := if n < 128 then [(n : Int)] else ((n % 128 + 128 : Nat) : Int) :: enc (n / 128)
termination_by n
decreasing_by omega
theorem enc_less {n : Nat} (h : n < 128) : enc n = [(n : Int)] := by rw [enc, if_pos h]
theorem enc_more {n : Nat} (h : 128 ≤ n) : enc n = ((n % 128 + 128 : Nat) : Int) :: enc (n / 128) := by rw [enc, if_neg (by omega)]
theorem enc_len : ∀ (k n : Nat), n < 128 ^ (k + 1) → (enc n).length ≤ k + 1
  | 0, n, h => by rw [enc_less (by simpa using h)]; simp
  | k + 1, n, h => by
    by_cases h1 : n < 128
    · rw [enc_less h1]; simp
    · rw [enc_more (by omega), List.length_cons]
      have := enc_len k (n / 128) (by rw [Nat.div_lt_iff_lt_mul (by omega)]; rw [Nat.pow_succ] at h; exact h)
      omega
theorem enc_len6 {n : Nat} (h : n ≤ 1000000000000) : (enc n).length ≤ 6 := enc_len 5 n (by omega)
theorem enc_pos (n : Nat) : 1 ≤ (enc n).length := by rw [enc]; split <;> simp
theorem enc_wf (n : Nat) : ∀ z ∈ enc n, 0 ≤ z ∧ z ≤ 255 := by
  induction n using Nat.strongRecOn with
  | _ n ih =>
    intro z hz
    by_cases h : n < 128
    · rw [enc_less h] at hz
      have : z = n := by simpa using hz
      omega
    · rw [enc_more (by omega)] at hz
      rcases List.mem_cons.1 hz with hz | hz
      · omega
      · exact ih (n / 128) (by omega) z hz

/-- The varint in front of a list: its number and how many bytes; f groups at most, k of them read, a gathered. -/
def dec : Nat → List Int → Nat → Int → Option (Int × Nat)
  | 0, _, _, _ => none
  | _ + 1, [], _, _ => none
  | f + 1, x :: r, k, a => if x < 128 then (if (x = 0 ∧ 0 < k) ∨ 1000000000000 < a + x * 128 ^ k then none else some (a + x * 128 ^ k, k + 1)) else dec f r (k + 1) (a + (x - 128) * 128 ^ k)
theorem dec_zero (l : List Int) (k : Nat) (a : Int) : dec 0 l k a = none := rfl
theorem dec_nil (f k : Nat) (a : Int) : dec f [] k a = none := by cases f <;> rfl
theorem dec_last {f : Nat} {x : Int} {r : List Int} {k : Nat} {a : Int} (h : x < 128) : dec (f + 1) (x :: r) k a = if (x = 0 ∧ 0 < k) ∨ 1000000000000 < a + x * 128 ^ k then none else some (a + x * 128 ^ k, k + 1) := by
  rw [dec, if_pos h]
theorem dec_more {f : Nat} {x : Int} {r : List Int} {k : Nat} {a : Int} (h : ¬ x < 128) : dec (f + 1) (x :: r) k a = dec f r (k + 1) (a + (x - 128) * 128 ^ k) := by
  rw [dec, if_neg h]

theorem dec_enc : ∀ (f n k : Nat) (a : Int) (r : List Int), (enc n).length ≤ f → (0 < k → 0 < n) → a + n * 128 ^ k ≤ 1000000000000 → dec f (enc n ++ r) k a = some (a + n * 128 ^ k, k + (enc n).length) := by
  intro f
  induction f with
  | zero => intro n k a r h; have := enc_pos n; omega
  | succ f ih =>
    intro n k a r h h0 hm
    by_cases hn : n < 128
    · rw [enc_less hn, List.singleton_append, dec_last (by omega), if_neg (by rintro (h | h) <;> omega)]
      rfl
    · have hp : (0 : Int) ≤ 128 ^ k := Int.pow_nonneg (by omega)
      have e : (a + (((n % 128 + 128 : Nat) : Int) - 128) * 128 ^ k) + ((n / 128 : Nat) : Int) * 128 ^ (k + 1) = a + n * 128 ^ k := by
        have e1 : ((n % 128 + 128 : Nat) : Int) - 128 = ((n % 128 : Nat) : Int) := by omega
        have e2 : (n : Int) = ((n % 128 : Nat) : Int) + ((n / 128 : Nat) : Int) * 128 := by omega
        rw [e1, Int.pow_succ]
        conv => rhs; rw [e2]
        rw [Int.add_mul, Int.add_assoc, Int.mul_assoc, Int.mul_comm 128 (128 ^ k)]
      rw [enc_more (by omega)] at h ⊢
      rw [List.cons_append, dec_more (by omega), ih (n / 128) (k + 1) _ r (by simpa using h) (by omega) (by rw [e]; exact hm), e, List.length_cons]
      congr 2; omega

theorem enc_dec : ∀ (f : Nat) (l : List Int) (k : Nat) (a m : Int) (c : Nat), (∀ z ∈ l, 0 ≤ z ∧ z ≤ 255) → dec f l k a = some (m, c) →
    ∃ y : Nat, m = a + y * 128 ^ k ∧ (0 < k → 0 < y) ∧ c = k + (enc y).length ∧ l.take (c - k) = enc y ∧ m ≤ 1000000000000 := by
  intro f
  induction f with
  | zero => intro l k a m c _ h; cases h
  | succ f ih =>
    intro l k a m c hl h
    cases l with
    | nil => cases h
    | cons x r =>
      have hx := hl x (List.mem_cons_self ..)
      by_cases h1 : x < 128
      · rw [dec_last h1] at h
        split at h
        · cases h
        · injection h with h
          injection h with e1 e2
          have ex : ((x.toNat : Nat) : Int) = x := by omega
          have el : enc x.toNat = [x] := by rw [enc_less (by omega), ex]
          rename_i hno
          refine ⟨x.toNat, by rw [ex, e1], fun h => ?_, by rw [el, ← e2]; rfl, ?_, by omega⟩
          · rcases Nat.eq_zero_or_pos x.toNat with h0 | h0
            · exact absurd (Or.inl ⟨by omega, h⟩) hno
            · exact h0
          · rw [el, ← e2, Nat.add_sub_cancel_left]; simp
      · rw [dec_more h1] at h
        obtain ⟨y, e1, e2, e3, e4, e5⟩ := ih r (k + 1) _ m c (fun z hz => hl z (List.mem_cons_of_mem _ hz)) h
        have hy := e2 (by omega)
        have ey : enc ((x - 128).toNat + 128 * y) = x :: enc y := by
          rw [enc_more (by omega)]
          have d1 : ((x - 128).toNat + 128 * y) / 128 = y := by omega
          have d2 : ((((x - 128).toNat + 128 * y) % 128 + 128 : Nat) : Int) = x := by omega
          rw [d1, d2]
        have hc : k + 1 ≤ c := by omega
        refine ⟨(x - 128).toNat + 128 * y, ?_, by omega, by rw [ey, List.length_cons]; omega, ?_, e5⟩
        · rw [e1, Int.pow_succ]
          have e6 : (((x - 128).toNat + 128 * y : Nat) : Int) = (x - 128) + y * 128 := by omega
          rw [e6, Int.add_mul, Int.add_assoc, Int.mul_assoc, Int.mul_comm 128 (128 ^ k)]
        · rw [ey, show c - k = (c - (k + 1)) + 1 by omega, List.take_succ_cons, e4]
theorem dec_c {f : Nat} {l : List Int} {k : Nat} {a m : Int} {c : Nat} (hl : ∀ z ∈ l, 0 ≤ z ∧ z ≤ 255) (h : dec f l k a = some (m, c)) : k + 1 ≤ c ∧ c ≤ k + l.length ∧ (0 ≤ a → a ≤ m) := by
  obtain ⟨y, e1, e2, e3, e4, e5⟩ := enc_dec f l k a m c hl h
  have h1 := enc_pos y
  have h2 := congrArg List.length e4
  rw [List.length_take] at h2
  refine ⟨by omega, by omega, fun h0 => ?_⟩
  have : (0 : Int) ≤ y * 128 ^ k := Int.mul_nonneg (by omega) (Int.pow_nonneg (by omega))
  omega

/-- What AppendUvarint hands back. -/
def uv (b : List Int) (n : Int) : List Int := if 0 ≤ n ∧ n ≤ 1000000000000 then b ++ enc n.toNat else b
theorem uv_in {b : List Int} {n : Int} (h : 0 ≤ n ∧ n ≤ 1000000000000) : uv b n = b ++ enc n.toNat := if_pos h
theorem uv_out {b : List Int} {n : Int} (h : ¬ (0 ≤ n ∧ n ≤ 1000000000000)) : uv b n = b := if_neg h
theorem uv_len (b : List Int) (n : Int) : (uv b n).length ≤ b.length + 6 := by
  unfold uv
  split
  · rename_i h
    rw [List.length_append]
    have := enc_len6 (n := n.toNat) (by omega)
    omega
  · omega
theorem uv_wf {b : List Int} (hb : ∀ z ∈ b, 0 ≤ z ∧ z ≤ 255) (n : Int) : ∀ z ∈ uv b n, 0 ≤ z ∧ z ≤ 255 := by
  unfold uv
  split
  · intro z hz
    rcases List.mem_append.1 hz with hz | hz
    · exact hb z hz
    · exact enc_wf _ z hz
  · exact hb
/-- What ReadUvarint hands back. -/
def rv (b : List Int) (off : Int) : Int × Int × Bool :=
  if 0 ≤ off ∧ off < b.length then
    match dec 6 (b.drop off.toNat) 0 0 with
    | some (m, c) => (m, off + c, true)
    | none => (0, 0, false)
  else (0, 0, false)
theorem rv_out {b : List Int} {off : Int} (h : ¬ (0 ≤ off ∧ off < b.length)) : rv b off = (0, 0, false) := if_neg h
theorem rv_none {b : List Int} {off : Int} (hd : dec 6 (b.drop off.toNat) 0 0 = none) : rv b off = (0, 0, false) := by
  unfold rv; split
  · rw [hd]
  · rfl
theorem rv_some {b : List Int} {off m : Int} {c : Nat} (h : 0 ≤ off ∧ off < b.length) (hd : dec 6 (b.drop off.toNat) 0 0 = some (m, c)) : rv b off = (m, off + c, true) := by
  unfold rv; rw [if_pos h, hd]
/-- What a reading that went well says. -/
theorem rv_ok {b : List Int} (hb : ∀ z ∈ b, 0 ≤ z ∧ z ≤ 255) {off m nx : Int} (h : rv b off = (m, nx, true)) :
    0 ≤ off ∧ off < nx ∧ nx ≤ b.length ∧ 0 ≤ m ∧ m ≤ 1000000000000 ∧ enc m.toNat = (b.drop off.toNat).take (nx - off).toNat := by
  unfold rv at h
  split at h
  · rename_i ho
    cases hd : dec 6 (b.drop off.toNat) 0 0 with
    | none => rw [hd] at h; cases h
    | some p =>
      obtain ⟨m', c⟩ := p
      rw [hd] at h
      injection h with e1 e2; injection e2 with e2 e3
      subst e1 e2
      obtain ⟨y, g1, g2, g3, g4, g5⟩ := enc_dec 6 _ 0 0 m' c (fun z hz => hb z (List.mem_of_mem_drop hz)) hd
      obtain ⟨g6, g7, g8⟩ := dec_c (fun z hz => hb z (List.mem_of_mem_drop hz)) hd
      rw [List.length_drop] at g7
      have ey : m'.toNat = y := by rw [g1]; simp
      refine ⟨ho.1, by omega, by omega, g8 (by omega), g5, ?_⟩
      rw [ey, ← g4]
      congr 1; omega
  · cases h
theorem rv_bad {b : List Int} {off : Int} (h : (rv b off).2.2 = false) : rv b off = (0, 0, false) := by
  unfold rv at h ⊢
  split at h
  · rename_i ho
    rw [if_pos ho]
    cases hd : dec 6 (b.drop off.toNat) 0 0 with
    | none => rfl
    | some p => rw [hd] at h; cases h
  · rename_i ho
    rw [if_neg ho]
theorem rv_enc (b r : List Int) (n : Int) (h : 0 ≤ n ∧ n ≤ 1000000000000) : rv (b ++ (enc n.toNat ++ r)) b.length = (n, (b.length : Int) + ((enc n.toNat).length : Int), true) := by
  have hp := enc_pos n.toNat
  have hd := dec_enc 6 n.toNat 0 0 r (enc_len6 (by omega)) (by omega) (by simp; omega)
  have e : (b ++ (enc n.toNat ++ r)).drop ((b.length : Int)).toNat = enc n.toNat ++ r := by simp
  rw [rv_some (by simp; omega) (by rw [e]; exact hd)]
  simp; omega
end Go.Proofs.Ytjmenbpalihnnaa.enc
end
