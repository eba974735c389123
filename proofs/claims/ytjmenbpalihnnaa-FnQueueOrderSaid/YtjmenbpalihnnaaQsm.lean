/- The laws' comparison of messages; a slice in a region that only reads. Condition: none. -/
import Derived.Test.YtjmenbpalihnnaaQmn
import Derived.Test.YtjmenbpalihnnaaSame
namespace Go.Proofs.Ytjmenbpalihnnaa.mq
open Go.RowKit sl harn bx mrw
set_option linter.unusedVariables false
set_option linter.unusedSimpArgs false

theorem quiet_slice {P : Program} {C : World → Prop} {a : Act} {o : Oper} {K : Act → Prop} (t : TypeId) (x y : Operand) (h : o.op = .slice t x none (some y) none) (v yv r : Value) (hx : a.eval x = v) (hy : a.eval y = yv)
    (hr : ∀ W, (Instr.sliceAt t v none (some yv) none).run P W = .ok r W) (hk : K (a.put o.dst r)) : o.quiet P a C K := by
  refine ⟨r, fun w _ => ?_, hk⟩
  unfold Oper.quietAt Oper.quietUpon execOp
  simp only [h, Option.map_some, Option.map_none, hx, hy]
  simp [Sem.run_bind, hr]
theorem rq_take {w : World} {lo hi n cap : Nat} {A : Option Addr} {xs : List Msg} (h : Rq msg w lo hi A n cap xs) {k : Nat} (hk : k ≤ n) : Rq msg w lo hi A k cap (xs.take k) := by
  obtain ⟨h1, h2, h3, h4, h5⟩ := h
  refine ⟨by rw [List.length_take]; omega, by omega, h3, h4, fun h0 => ?_⟩
  obtain ⟨b, off, e, g1, g2, g3⟩ := h5 (by omega)
  exact ⟨b, off, e, g1, g2, fun i x hx => g3 i x (by rw [List.getElem?_take] at hx; split at hx; exact hx; cases hx)⟩
set_option maxRecDepth 100000 in
set_option maxHeartbeats 4000000 in
theorem sameM_yes (x : Msg) (A : Option Addr) (n c : Nat) (A' : Option Addr) (n' c' : Nat) (lo hi lo2 hi2 : Nat) (w : World) (h : Rd .u8 w lo hi A n c x.2.2.2) (h2 : Rd .u8 w lo2 hi2 A' n' c' x.2.2.2) :
    Calls Try.prog 20 #[mV x A n c, mV x A' n' c'] w (BPost true w) := by
  have HB := Lib.hid (below_box2 w (.cells #[.int .i64 x.1, .int .i64 x.2.1, .int .i64 x.2.2.1, .slice A n c] 28) (.cells #[.int .i64 x.1, .int .i64 x.2.1, .int .i64 x.2.2.1, .slice A' n' c'] 28))
  have HR := Lib.hid (h.below HB.out)
  have HS := Lib.hid (h2.below HB.out)
  clear h h2
  go_enter Try.func20, Try.ntmps20
  go_wp2_with fail
  (with_reducible refine (harn.sameB_yes x.2.2.2 _ _ _ _ A A' n c n' c' _ HR.out HS.out).mono ?_)
  rintro e w1 ⟨rfl, hb⟩
  have B1 := Lib.hid (HB.out.trans (hb.mono HB.out.size))
  clear hb
  go_wp2_with fail
  go_ret
  exact ⟨rfl, B1.out⟩
set_option maxRecDepth 100000 in
set_option maxHeartbeats 4000000 in
theorem sameMs_yes (ms : List Msg) (A A2 : Option Addr) (n cap n2 cap2 lo hi lo2 hi2 : Nat) (w : World) (h : Rq msg w lo hi A n cap ms) (h2 : Rq msg w lo2 hi2 A2 n2 cap2 ms) :
    Calls Try.prog 19 #[.slice A n cap, .slice A2 n2 cap2] w (BPost true w) := by
  have hc := h.cap_
  have hc2 := h2.cap_
  have HQ := Lib.hid h
  have HP := Lib.hid h2
  obtain rfl : n = n2 := by rw [← h.len, ← h2.len]
  clear h h2
  go_enter Try.func19, Try.ntmps19
  go_wp2_with fail
  go_loopw [5] (fun i wr => ∃ k : Nat, i = .int .i64 k ∧ k ≤ n ∧ Below w.heap.size w wr) (fun i _ => n - (intOf i).toNat)
  case atStart => exact ⟨0, rfl, by omega, Below.refl _ _⟩
  case round =>
    obtain ⟨k, rfl, hk, hb⟩ := hrel
    have HB := Lib.hid hb
    have HR := Lib.hid (HQ.out.below hb)
    have HS := Lib.hid (HP.out.below hb)
    clear hb
    by_cases hlt : k < n
    · obtain ⟨b, off, y, hA, hy, h1, h2, A', n', c', hd, c0, c1, c2, c3⟩ := at_ HR.out hlt
      obtain ⟨b2, off2, y2, hA2, hy2, h12, h22, A2', n2', c2', hd2, c20, c21, c22, c23⟩ := at_ HS.out hlt
      obtain rfl : y = y2 := Option.some.inj (hy.symm.trans hy2)
      subst hA hA2
      have HD := Lib.hid hd
      have HD2 := Lib.hid hd2
      clear hy hy2 hd hd2
      have hlt2 : (k : Int) < n := by omega
      go_upto_region 6 with fail
      have d0 : ∀ m : Af wr, m.w.cell? ⟨b, off + k * 4, none⟩ = some (.int .i64 y.1) := fun m => by rw [m.below.cell (World.block_lt_of_cell? _ _ c0)]; exact c0
      have d1 : ∀ m : Af wr, m.w.cell? ⟨b, off + k * 4 + 1, none⟩ = some (.int .i64 y.2.1) := fun m => by rw [m.below.cell (World.block_lt_of_cell? _ _ c1)]; exact c1
      have d2 : ∀ m : Af wr, m.w.cell? ⟨b, off + k * 4 + 2, none⟩ = some (.int .i64 y.2.2.1) := fun m => by rw [m.below.cell (World.block_lt_of_cell? _ _ c2)]; exact c2
      have d3 : ∀ m : Af wr, m.w.cell? ⟨b, off + k * 4 + 3, none⟩ = some (.slice A' n' c') := fun m => by rw [m.below.cell (World.block_lt_of_cell? _ _ c3)]; exact c3
      have e0 : ∀ m : Af wr, m.w.cell? ⟨b2, off2 + k * 4, none⟩ = some (.int .i64 y.1) := fun m => by rw [m.below.cell (World.block_lt_of_cell? _ _ c20)]; exact c20
      have e1 : ∀ m : Af wr, m.w.cell? ⟨b2, off2 + k * 4 + 1, none⟩ = some (.int .i64 y.2.1) := fun m => by rw [m.below.cell (World.block_lt_of_cell? _ _ c21)]; exact c21
      have e2 : ∀ m : Af wr, m.w.cell? ⟨b2, off2 + k * 4 + 2, none⟩ = some (.int .i64 y.2.2.1) := fun m => by rw [m.below.cell (World.block_lt_of_cell? _ _ c22)]; exact c22
      have e3 : ∀ m : Af wr, m.w.cell? ⟨b2, off2 + k * 4 + 3, none⟩ = some (.slice A2' n2' c2') := fun m => by rw [m.below.cell (World.block_lt_of_cell? _ _ c23)]; exact c23
      have q0 := Lib.hid (fun m => sameM_yes y A' n' c' A2' n2' c2' _ _ _ _ m.w (Af.rd HD.out m) (Af.rd HD2.out m) : ∀ m : Af wr, Calls Try.prog 20 #[mV y A' n' c', mV y A2' n2' c2'] m.w fun e w' => e = .returned (.bool true) ∧ Below m.w.heap.size m.w w')
      clear c0 c1 c2 c3 c20 c21 c22 c23
      refine region_after (by kernel_rfl) (by kernel_rfl) ?_
      repeat (go_big_quiet_step ((go_at_call 20; with_reducible exact Af.call (q0.out _))))
      refine wpQuiet_nil ?_
      intro _ hw'
      obtain ⟨nq, hw''⟩ := hw'
      subst hw''
      clear d0 d1 d2 d3 e0 e1 e2 e3 q0
      obtain ⟨w5, hw5⟩ : ∃ w5, nq.w = w5 := ⟨_, rfl⟩
      have NB := Lib.hid nq.below
      rw [hw5] at NB
      (try rw [hw5])
      clear hw5
      have HB5 := Lib.hid (HB.out.trans (NB.out.mono HB.out.size))
      clear NB nq HB
      go_wp2_with fail
      go_roundw
      case rel => exact ⟨k + 1, by go_num, by omega, HB5.out⟩
      case measure => simp [intOf]; omega
    · have hlt2 : ¬ (k : Int) < n := by omega
      go_wp2_with fail
      go_ret
      exact ⟨rfl, HB.out⟩
end Go.Proofs.Ytjmenbpalihnnaa.mq
