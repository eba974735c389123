/- CountCategory and NextMessage of both sides, the search by an order. Condition: none. -/
import Derived.Test.YtjmenbpalihnnaaQmm
import Derived.Test.YtjmenbpalihnnaaRng
import Derived.Deep.Cut
namespace Go.Proofs.Ytjmenbpalihnnaa.mq
open Go.RowKit sl harn bx mrw
set_option linter.unusedVariables false
set_option linter.unusedSimpArgs false

set_option maxRecDepth 100000 in
set_option maxHeartbeats 4000000 in
theorem implCc (x : Int) (ms : List Msg) (d : Int) (A : Option Addr) (n cap lo hi : Nat) (w : World) (h : Rq msg w lo hi A n cap ms) :
    Calls Try.prog 21 #[qV A n cap d, .int .i64 x] w (NPost (cnt x ms n) w) := by
  have hc := h.cap_
  have HQ := Lib.hid h
  clear h
  have HX := Lib.hid (Bx.made 26 w #[.slice A n cap, .int .i64 d])
  go_enter Try.func21, Try.ntmps21
  go_wp2_with fail
  go_loopw [5, 11] (fun c i wr => ∃ k m : Nat, i = .int .i64 k ∧ c = .int .i64 m ∧ k ≤ n ∧ m = cnt x ms k ∧ Below w.heap.size w wr ∧ Bx 26 wr w.heap.size #[.slice A n cap, .int .i64 d]) (fun _ i _ => n - (intOf i).toNat)
  case atStart => exact ⟨0, 0, rfl, rfl, by omega, rfl, below_box _ _, HX.out⟩
  case round =>
    obtain ⟨k, m, rfl, rfl, hk, hm, hb, hx⟩ := hrel
    have HM := Lib.hid hm
    have HB := Lib.hid hb
    have HX := Lib.hid hx
    have hml : m ≤ k := by rw [hm]; exact cnt_le x ms k
    have HR := Lib.hid (HQ.out.below hb)
    have q0 : wr.cell? ⟨w.heap.size, 0, none⟩ = some (.slice A n cap) := hx.cell 0
    clear hm hb hx
    by_cases hlt : k < n
    · obtain ⟨b, off, y, hA, hy, h1, h2, A', n', c', hd, c0, c1, c2, c3⟩ := at_ HR.out hlt
      have HY := Lib.hid (getD_of hy)
      have HD := Lib.hid hd
      clear hy hd
      subst hA
      have hlt2 : (k : Int) < n := by omega
      by_cases hxy : y.2.1 = x
      · have he : (y.2.1 == x) = true := by simpa using hxy
        go_wp2_with fail
        go_roundw
        case rel => exact ⟨k + 1, m + 1, by go_num, by go_num, by omega, by rw [cnt, HY.out, if_pos hxy, HM.out], HB.out.alloc HB.out.size _, HX.out.below (below_box _ _)⟩
        case measure => simp [intOf]; omega
      · have he : (y.2.1 == x) = false := by simpa using hxy
        go_wp2_with fail
        go_roundw
        case rel => exact ⟨k + 1, m, by go_num, rfl, by omega, by rw [cnt, HY.out, if_neg hxy, HM.out], HB.out.alloc HB.out.size _, HX.out.below (below_box _ _)⟩
        case measure => simp [intOf]; omega
    · have hlt2 : ¬ (k : Int) < n := by omega
      go_wp2_with fail
      go_ret
      obtain rfl : k = n := by omega
      exact ⟨by rw [HM.out]; rfl, HB.out⟩
theorem quiet_nilc {P : Program} {C : World → Prop} {a : Act} {o : Oper} {K : Act → Prop} (x : Operand) (h : o.op = .nilCheck x) (T : TypeId) (v : Value) (nm : String) (hx : a.eval x = .func (.method nm) #[.iface T v] #[])
    (hn : ∀ w, (nilAhead (P.types.size + Made.depth) T v nm).run P w = .ok (some false) w) (hk : K (a.put o.dst (.func (.method nm) #[.iface T v] #[]))) : o.quiet P a C K := by
  refine ⟨_, fun w _ => ?_, hk⟩
  unfold Oper.quietAt Oper.quietUpon execOp
  simp only [h, hx]
  simp [Sem.run_bind, hn]
theorem quiet_inv {P : Program} {C : World → Prop} {a : Act} {o : Oper} {K : Act → Prop} (r p q : Operand) (nm : String) (ts : Array TypeId) (h : o.op = .call { callee := .invoke r nm, args := #[p, q], argTypes := ts }) (T : TypeId) (rv pv qv : Value)
    (hr : a.eval r = .iface T rv) (hp : a.eval p = pv) (hq : a.eval q = qv) (f : FuncId) (args : Array Value) (v : Value) (hi : ∀ w, (invoke (.fn (.method nm) #[]) #[.iface T rv, pv, qv]).run P w = .ok (.enter f args) w)
    (hc : ∀ w, C w → Calls P f args w fun e w' => e = .returned v ∧ C w') (hk : K (a.put o.dst v)) : o.quiet P a C K := by
  refine ⟨v, fun w hw => ?_, hk⟩
  unfold Oper.quietAt Oper.quietUpon execOp
  simp only [h, resolve, Sem.run_bind, Sem.run_pure, Result.andThen_ok, List.map_toArray, List.map_cons, List.map_nil, hr, hp, hq]
  have e : (#[(.iface T rv : Value)] ++ #[pv, qv] : Array Value) = #[.iface T rv, pv, qv] := rfl
  rw [e, hi]
  exact ⟨rfl, hc w hw⟩
theorem nc_at {base : World} {P : Program} {f : FuncId} {args : Array Value} {v : Value} (h : ∀ m : Af base, Calls P f args m.w fun e w' => e = .returned v ∧ Below m.w.heap.size m.w w') : ∀ w, (∃ n : Af base, w = n.w) → Calls P f args w fun e w' => e = .returned v ∧ ∃ n : Af base, w' = n.w :=
  fun w hw => by
    obtain ⟨n, rfl⟩ := hw
    exact Af.call (h n)
set_option maxRecDepth 100000 in
set_option maxHeartbeats 4000000 in
theorem prefT (x y : Msg) (A : Option Addr) (n c : Nat) (A' : Option Addr) (n' c' : Nat) (w : World) :
    Calls Try.prog 131 #[.agg #[], mV x A n c, mV y A' n' c'] w (BPost (gt x.2.1 y.2.1) w) := by
  go_enter Try.func131, Try.ntmps131
  go_wp2_with fail
  go_ret
  refine ⟨by unfold gt; rfl, ?_⟩
  (repeat' (first | exact Below.refl _ _ | refine Below.alloc ?_ (by simp <;> omega) _))
set_option maxRecDepth 100000 in
set_option maxHeartbeats 4000000 in
theorem prefD (x y : Msg) (A : Option Addr) (n c : Nat) (A' : Option Addr) (n' c' : Nat) (w : World) :
    Calls Try.prog 130 #[.agg #[], mV x A n c, mV y A' n' c'] w (BPost (le x.2.1 y.2.1) w) := by
  go_enter Try.func130, Try.ntmps130
  go_wp2_with fail
  go_ret
  refine ⟨by unfold le; rfl, ?_⟩
  (repeat' (first | exact Below.refl _ _ | refine Below.alloc ?_ (by simp <;> omega) _))
set_option maxRecDepth 100000 in
set_option maxHeartbeats 4000000 in
theorem chosenT (ms : List Msg) (A : Option Addr) (n cap lo hi : Nat) (w : World) (h : Rq msg w lo hi A n cap ms) :
    Calls Try.prog 66 #[.slice A n cap, .iface 89 (.agg #[])] w (NPost (bst gt ms n) w) := by
  have hc := h.cap_
  have HQ := Lib.hid h
  clear h
  go_enter Try.func66, Try.ntmps66
  go_wp2_with fail
  go_loopw [5, 10] (fun c i wr => ∃ (k : Nat) (z : Int), i = .int .i64 k ∧ c = .int .i64 z ∧ k ≤ n ∧ z = bst gt ms k ∧ Below w.heap.size w wr) (fun _ i _ => n - (intOf i).toNat)
  case atStart => exact ⟨0, -1, rfl, rfl, by omega, rfl, Below.refl _ _⟩
  case round =>
    obtain ⟨k, z, rfl, rfl, hk, hz, hb⟩ := hrel
    have HZ := Lib.hid hz
    have HB := Lib.hid hb
    have HR := Lib.hid (HQ.out.below hb)
    have hrg := bst_range gt ms k
    rw [← hz] at hrg
    clear hz hb
    by_cases hlt : k < n
    · obtain ⟨b, off, y, hA, hy, h1, h2, A', n', c', hd, c0, c1, c2, c3⟩ := at_ HR.out hlt
      have HY := Lib.hid (getD_of hy)
      have HD := Lib.hid hd
      clear hy hd
      subst hA
      have hlt2 : (k : Int) < n := by omega
      go_upto_region 5 with fail
      obtain ⟨w1, hW⟩ : ∃ w1, wr.alloc (.cells #[.int .i64 y.1, .int .i64 y.2.1, .int .i64 y.2.2.1, .slice A' n' c'] 28) = w1 := ⟨_, rfl⟩
      rw [hW]
      have X1 := Lib.hid (show Bx 28 w1 wr.heap.size #[.int .i64 y.1, .int .i64 y.2.1, .int .i64 y.2.2.1, .slice A' n' c'] by rw [← hW]; exact Bx.made _ _ _)
      have B1 := Lib.hid (show Below wr.heap.size wr w1 by rw [← hW]; exact below_box _ _)
      have BW := Lib.hid (HB.out.trans (B1.out.mono HB.out.size))
      have R1 := Lib.hid (HR.out.below B1.out)
      clear hW c0 c1 c2 c3
      by_cases hneg : z < 0
      · have hng : decide (z < 0) = true := decide_eq_true hneg
        refine region_after (by kernel_rfl) (by kernel_rfl) ?_
        repeat (go_big_quiet_step (fail))
        refine wpQuiet_nil ?_
        intro _ hw'
        obtain ⟨nq, hw''⟩ := hw'
        subst hw''
        have BQ := Lib.hid (BW.out.trans (nq.below.mono BW.out.size))
        obtain ⟨w5, hw5⟩ : ∃ w5, nq.w = w5 := ⟨_, rfl⟩
        rw [hw5] at BQ
        (try rw [hw5])
        go_wp2_with fail
        go_roundw
        case rel => exact ⟨k + 1, k, by go_num, rfl, by omega, by rw [bst, if_pos (by rw [← HZ.out]; exact hneg)], BQ.out⟩
        case measure => simp [intOf]; omega
      · have hng : decide (z < 0) = false := decide_eq_false hneg
        obtain ⟨z, rfl⟩ : ∃ u : Nat, z = (u : Int) := ⟨z.toNat, by omega⟩
        have hzl : z < n := by omega
        obtain ⟨b2, off2, y2, hA2, hy2, g1, g2, A2, n2, e2, hd2, k0, k1, k2, k3⟩ := at_ R1.out hzl
        injection hA2 with hA2
        injection hA2 with hA2 hA3
        subst hA2 hA3
        have HY2 := Lib.hid (getD_of hy2)
        clear hy2 hd2
        have d0 : ∀ m : Af w1, m.w.cell? ⟨b, off + z * 4, none⟩ = some (.int .i64 y2.1) := fun m => by rw [m.below.cell (World.block_lt_of_cell? _ _ k0)]; exact k0
        have d1 : ∀ m : Af w1, m.w.cell? ⟨b, off + z * 4 + 1, none⟩ = some (.int .i64 y2.2.1) := fun m => by rw [m.below.cell (World.block_lt_of_cell? _ _ k1)]; exact k1
        have d2 : ∀ m : Af w1, m.w.cell? ⟨b, off + z * 4 + 2, none⟩ = some (.int .i64 y2.2.2.1) := fun m => by rw [m.below.cell (World.block_lt_of_cell? _ _ k2)]; exact k2
        have d3 : ∀ m : Af w1, m.w.cell? ⟨b, off + z * 4 + 3, none⟩ = some (.slice A2 n2 e2) := fun m => by rw [m.below.cell (World.block_lt_of_cell? _ _ k3)]; exact k3
        have x0 : ∀ m : Af w1, m.w.cell? ⟨wr.heap.size, 0, none⟩ = some (.int .i64 y.1) := fun m => (Af.cells X1.out m).cell 0
        have x1 : ∀ m : Af w1, m.w.cell? ⟨wr.heap.size, 1, none⟩ = some (.int .i64 y.2.1) := fun m => (Af.cells X1.out m).cell 1
        have x2 : ∀ m : Af w1, m.w.cell? ⟨wr.heap.size, 2, none⟩ = some (.int .i64 y.2.2.1) := fun m => (Af.cells X1.out m).cell 2
        have x3 : ∀ m : Af w1, m.w.cell? ⟨wr.heap.size, 3, none⟩ = some (.slice A' n' c') := fun m => (Af.cells X1.out m).cell 3
        clear k0 k1 k2 k3
        have hzl2 : (z : Int) < n := by omega
        obtain ⟨v, hv⟩ : ∃ v, gt y.2.1 y2.2.1 = v := ⟨_, rfl⟩
        have HV := Lib.hid hv
        have hna := Lib.hid (fun W => by kernel_rfl : ∀ W : World, (nilAhead (Try.prog.types.size + Made.depth) 89 (.agg #[]) "loop.example/g00511/impl.prefers").run Try.prog W = .ok (some false) W)
        have hinv : ∀ W : World, (invoke (.fn (.method "loop.example/g00511/impl.prefers") #[]) #[.iface 89 (.agg #[]), mV y A' n' c', mV y2 A2 n2 e2]).run Try.prog W = .ok (.enter 131 #[.agg #[], mV y A' n' c', mV y2 A2 n2 e2]) W := fun W => by kernel_rfl
        have q0 := Lib.hid (fun m => by have hh := prefT y y2 A' n' c' A2 n2 e2 m.w; rw [hv] at hh; exact hh : ∀ m : Af w1, Calls Try.prog 131 #[.agg #[], mV y A' n' c', mV y2 A2 n2 e2] m.w fun e w' => e = .returned (.bool v) ∧ Below m.w.heap.size m.w w')
        clear hv
        refine region_after (by kernel_rfl) (by kernel_rfl) ?_
        repeat (first
          | (go_big_quiet_want; refine quiet_nilc _ rfl 89 _ _ rfl hna.out ?_; simp only [Act.put, List.setIfInBounds_toArray, List.set_cons_zero, List.set_cons_succ]; go_big_quiet_on)
          | (go_big_quiet_want; refine quiet_inv _ _ _ _ _ rfl 89 (.agg #[]) (mV y A' n' c') (mV y2 A2 n2 e2) rfl rfl rfl 131 _ (.bool v) hinv (nc_at q0.out) ?_; simp only [Act.put, List.setIfInBounds_toArray, List.set_cons_zero, List.set_cons_succ]; go_big_quiet_on)
          | (go_big_quiet_step (fail)))
        refine wpQuiet_nil ?_
        intro _ hw'
        obtain ⟨nq, hw''⟩ := hw'
        subst hw''
        have BQ := Lib.hid (BW.out.trans (nq.below.mono BW.out.size))
        obtain ⟨w5, hw5⟩ : ∃ w5, nq.w = w5 := ⟨_, rfl⟩
        rw [hw5] at BQ
        (try rw [hw5])
        clear d0 d1 d2 d3 x0 x1 x2 x3 q0 hinv hna
        cases v with
        | true =>
          go_wp2_with fail
          go_roundw
          case rel => exact ⟨k + 1, k, by go_num, rfl, by omega, by rw [bst, ← HZ.out, if_neg hneg, Int.toNat_natCast, HY.out, HY2.out, HV.out, if_pos rfl], BQ.out⟩
          case measure => simp [intOf]; omega
        | false =>
          go_wp2_with fail
          go_roundw
          case rel => exact ⟨k + 1, z, by go_num, rfl, by omega, by rw [bst, ← HZ.out, if_neg hneg, Int.toNat_natCast, HY.out, HY2.out, HV.out, if_neg (by decide)], BQ.out⟩
          case measure => simp [intOf]; omega
    · have hlt2 : ¬ (k : Int) < n := by omega
      go_wp2_with fail
      go_ret
      obtain rfl : k = n := by omega
      exact ⟨by rw [HZ.out]; rfl, HB.out⟩
set_option maxRecDepth 100000 in
set_option maxHeartbeats 4000000 in
theorem chosenD (ms : List Msg) (A : Option Addr) (n cap lo hi : Nat) (w : World) (h : Rq msg w lo hi A n cap ms) :
    Calls Try.prog 66 #[.slice A n cap, .iface 86 (.agg #[])] w (NPost (bst le ms n) w) := by
  have hc := h.cap_
  have HQ := Lib.hid h
  clear h
  go_enter Try.func66, Try.ntmps66
  go_wp2_with fail
  go_loopw [5, 10] (fun c i wr => ∃ (k : Nat) (z : Int), i = .int .i64 k ∧ c = .int .i64 z ∧ k ≤ n ∧ z = bst le ms k ∧ Below w.heap.size w wr) (fun _ i _ => n - (intOf i).toNat)
  case atStart => exact ⟨0, -1, rfl, rfl, by omega, rfl, Below.refl _ _⟩
  case round =>
    obtain ⟨k, z, rfl, rfl, hk, hz, hb⟩ := hrel
    have HZ := Lib.hid hz
    have HB := Lib.hid hb
    have HR := Lib.hid (HQ.out.below hb)
    have hrg := bst_range le ms k
    rw [← hz] at hrg
    clear hz hb
    by_cases hlt : k < n
    · obtain ⟨b, off, y, hA, hy, h1, h2, A', n', c', hd, c0, c1, c2, c3⟩ := at_ HR.out hlt
      have HY := Lib.hid (getD_of hy)
      have HD := Lib.hid hd
      clear hy hd
      subst hA
      have hlt2 : (k : Int) < n := by omega
      go_upto_region 5 with fail
      obtain ⟨w1, hW⟩ : ∃ w1, wr.alloc (.cells #[.int .i64 y.1, .int .i64 y.2.1, .int .i64 y.2.2.1, .slice A' n' c'] 28) = w1 := ⟨_, rfl⟩
      rw [hW]
      have X1 := Lib.hid (show Bx 28 w1 wr.heap.size #[.int .i64 y.1, .int .i64 y.2.1, .int .i64 y.2.2.1, .slice A' n' c'] by rw [← hW]; exact Bx.made _ _ _)
      have B1 := Lib.hid (show Below wr.heap.size wr w1 by rw [← hW]; exact below_box _ _)
      have BW := Lib.hid (HB.out.trans (B1.out.mono HB.out.size))
      have R1 := Lib.hid (HR.out.below B1.out)
      clear hW c0 c1 c2 c3
      by_cases hneg : z < 0
      · have hng : decide (z < 0) = true := decide_eq_true hneg
        refine region_after (by kernel_rfl) (by kernel_rfl) ?_
        repeat (go_big_quiet_step (fail))
        refine wpQuiet_nil ?_
        intro _ hw'
        obtain ⟨nq, hw''⟩ := hw'
        subst hw''
        have BQ := Lib.hid (BW.out.trans (nq.below.mono BW.out.size))
        obtain ⟨w5, hw5⟩ : ∃ w5, nq.w = w5 := ⟨_, rfl⟩
        rw [hw5] at BQ
        (try rw [hw5])
        go_wp2_with fail
        go_roundw
        case rel => exact ⟨k + 1, k, by go_num, rfl, by omega, by rw [bst, if_pos (by rw [← HZ.out]; exact hneg)], BQ.out⟩
        case measure => simp [intOf]; omega
      · have hng : decide (z < 0) = false := decide_eq_false hneg
        obtain ⟨z, rfl⟩ : ∃ u : Nat, z = (u : Int) := ⟨z.toNat, by omega⟩
        have hzl : z < n := by omega
        obtain ⟨b2, off2, y2, hA2, hy2, g1, g2, A2, n2, e2, hd2, k0, k1, k2, k3⟩ := at_ R1.out hzl
        injection hA2 with hA2
        injection hA2 with hA2 hA3
        subst hA2 hA3
        have HY2 := Lib.hid (getD_of hy2)
        clear hy2 hd2
        have d0 : ∀ m : Af w1, m.w.cell? ⟨b, off + z * 4, none⟩ = some (.int .i64 y2.1) := fun m => by rw [m.below.cell (World.block_lt_of_cell? _ _ k0)]; exact k0
        have d1 : ∀ m : Af w1, m.w.cell? ⟨b, off + z * 4 + 1, none⟩ = some (.int .i64 y2.2.1) := fun m => by rw [m.below.cell (World.block_lt_of_cell? _ _ k1)]; exact k1
        have d2 : ∀ m : Af w1, m.w.cell? ⟨b, off + z * 4 + 2, none⟩ = some (.int .i64 y2.2.2.1) := fun m => by rw [m.below.cell (World.block_lt_of_cell? _ _ k2)]; exact k2
        have d3 : ∀ m : Af w1, m.w.cell? ⟨b, off + z * 4 + 3, none⟩ = some (.slice A2 n2 e2) := fun m => by rw [m.below.cell (World.block_lt_of_cell? _ _ k3)]; exact k3
        have x0 : ∀ m : Af w1, m.w.cell? ⟨wr.heap.size, 0, none⟩ = some (.int .i64 y.1) := fun m => (Af.cells X1.out m).cell 0
        have x1 : ∀ m : Af w1, m.w.cell? ⟨wr.heap.size, 1, none⟩ = some (.int .i64 y.2.1) := fun m => (Af.cells X1.out m).cell 1
        have x2 : ∀ m : Af w1, m.w.cell? ⟨wr.heap.size, 2, none⟩ = some (.int .i64 y.2.2.1) := fun m => (Af.cells X1.out m).cell 2
        have x3 : ∀ m : Af w1, m.w.cell? ⟨wr.heap.size, 3, none⟩ = some (.slice A' n' c') := fun m => (Af.cells X1.out m).cell 3
        clear k0 k1 k2 k3
        have hzl2 : (z : Int) < n := by omega
        obtain ⟨v, hv⟩ : ∃ v, le y.2.1 y2.2.1 = v := ⟨_, rfl⟩
        have HV := Lib.hid hv
        have hna := Lib.hid (fun W => by kernel_rfl : ∀ W : World, (nilAhead (Try.prog.types.size + Made.depth) 86 (.agg #[]) "loop.example/g00511/impl.prefers").run Try.prog W = .ok (some false) W)
        have hinv : ∀ W : World, (invoke (.fn (.method "loop.example/g00511/impl.prefers") #[]) #[.iface 86 (.agg #[]), mV y A' n' c', mV y2 A2 n2 e2]).run Try.prog W = .ok (.enter 130 #[.agg #[], mV y A' n' c', mV y2 A2 n2 e2]) W := fun W => by kernel_rfl
        have q0 := Lib.hid (fun m => by have hh := prefD y y2 A' n' c' A2 n2 e2 m.w; rw [hv] at hh; exact hh : ∀ m : Af w1, Calls Try.prog 130 #[.agg #[], mV y A' n' c', mV y2 A2 n2 e2] m.w fun e w' => e = .returned (.bool v) ∧ Below m.w.heap.size m.w w')
        clear hv
        refine region_after (by kernel_rfl) (by kernel_rfl) ?_
        repeat (first
          | (go_big_quiet_want; refine quiet_nilc _ rfl 86 _ _ rfl hna.out ?_; simp only [Act.put, List.setIfInBounds_toArray, List.set_cons_zero, List.set_cons_succ]; go_big_quiet_on)
          | (go_big_quiet_want; refine quiet_inv _ _ _ _ _ rfl 86 (.agg #[]) (mV y A' n' c') (mV y2 A2 n2 e2) rfl rfl rfl 130 _ (.bool v) hinv (nc_at q0.out) ?_; simp only [Act.put, List.setIfInBounds_toArray, List.set_cons_zero, List.set_cons_succ]; go_big_quiet_on)
          | (go_big_quiet_step (fail)))
        refine wpQuiet_nil ?_
        intro _ hw'
        obtain ⟨nq, hw''⟩ := hw'
        subst hw''
        have BQ := Lib.hid (BW.out.trans (nq.below.mono BW.out.size))
        obtain ⟨w5, hw5⟩ : ∃ w5, nq.w = w5 := ⟨_, rfl⟩
        rw [hw5] at BQ
        (try rw [hw5])
        clear d0 d1 d2 d3 x0 x1 x2 x3 q0 hinv hna
        cases v with
        | true =>
          go_wp2_with fail
          go_roundw
          case rel => exact ⟨k + 1, k, by go_num, rfl, by omega, by rw [bst, ← HZ.out, if_neg hneg, Int.toNat_natCast, HY.out, HY2.out, HV.out, if_pos rfl], BQ.out⟩
          case measure => simp [intOf]; omega
        | false =>
          go_wp2_with fail
          go_roundw
          case rel => exact ⟨k + 1, z, by go_num, rfl, by omega, by rw [bst, ← HZ.out, if_neg hneg, Int.toNat_natCast, HY.out, HY2.out, HV.out, if_neg (by decide)], BQ.out⟩
          case measure => simp [intOf]; omega
    · have hlt2 : ¬ (k : Int) < n := by omega
      go_wp2_with fail
      go_ret
      obtain rfl : k = n := by omega
      exact ⟨by rw [HZ.out]; rfl, HB.out⟩
end Go.Proofs.Ytjmenbpalihnnaa.mq
