/- A backoff and a seed drawn. Condition: the bytes that are drawn from are a slice that came in. -/
import Derived.Test.YtkfkfejjhfkobaaDoorDrawU
namespace Go.Proofs.YtkfkfejjhfkobaaDoor.draw
open Go.RowKit sl harn bx drk bom stw acm
set_option linter.unusedVariables false
set_option linter.unusedSimpArgs false

set_option maxRecDepth 100000 in
set_option maxHeartbeats 4000000 in
theorem drawSc (w : World) (A : Option Addr) (len cap : Nat) (hc : Code w w.heap.size A len) :
    Calls Tryd.prog 25 #[.slice A len cap] w (DsPost w) := by
  have C0 := Lib.hid hc
  clear hc
  go_enter Tryd.func25, Tryd.ntmps25
  go_wp2_with fail
  obtain ⟨w1, hW⟩ : ∃ w1, w.alloc (.cells #[.int .i64 0, .int .i64 0, .int .i64 0, .int .i64 0, .int .i64 0, .int .i64 0, .int .i64 0, .int .i64 0, .int .i64 0] 28) = w1 := ⟨_, rfl⟩
  rw [hW]
  have B1 := Lib.hid (show Below w.heap.size w w1 by rw [← hW]; exact below_box _ _)
  have Z1 := Lib.hid (show Bx 28 w1 w.heap.size #[.int .i64 0, .int .i64 0, .int .i64 0, .int .i64 0, .int .i64 0, .int .i64 0, .int .i64 0, .int .i64 0, .int .i64 0] by rw [← hW]; exact Bx.made _ _ _)
  have C1 := Lib.hid (code_later C0.out B1.out)
  have S1 := Lib.hid Z1.out.lt
  clear hW
  (with_reducible refine (new _ A len cap C1.out).mono ?_)
  rintro e w2 ⟨rfl, hk, hs, hc⟩
  have K2 := Lib.hid hk
  have C2 := Lib.hid hc
  have Z2 := Lib.hid (bx_keep Z1.out hk (by have := S1.out; omega))
  have P2 := Lib.hid hs
  clear hk hs hc Z1
  go_wp2_with fail
  (with_reducible refine (boa _ w1.heap.size A len cap C2.out).mono ?_)
  rintro e w3 ⟨⟨a1, b1, c1, d1, x1, t1, j1, r1, n1⟩, rfl, hk, hc⟩
  have K3 := Lib.hid (K2.out.trans hk)
  have C3 := Lib.hid hc
  have Z3 := Lib.hid (bx_keep Z2.out hk (by have := S1.out; omega))
  have S3 := Lib.hid (show w1.heap.size < w3.heap.size from Nat.lt_of_lt_of_le P2.out hk.size)
  clear hk hc K2 C2 Z2 P2
  obtain ⟨b, hbb⟩ : ∃ b, w3.heap.size = b := ⟨_, rfl⟩
  go_wp2_with fail
  generalize hW : w3.alloc (.cells #[.int .i64 a1, .int .i64 b1, .int .i64 c1, .int .i64 d1, .int .i64 x1, .int .i64 t1, .int .i64 j1, .int .i64 r1, .int .i64 n1] 28) = w4
  have K4 := Lib.hid (show Keep w1.heap.size w1 w4 by rw [← hW]; exact K3.out.alloc _)
  have C4 := Lib.hid (show Cur w4 w1.heap.size A len cap by rw [← hW]; exact C3.out.alloc _)
  have Z4 := Lib.hid (show Bx 28 w4 w.heap.size #[.int .i64 0, .int .i64 0, .int .i64 0, .int .i64 0, .int .i64 0, .int .i64 0, .int .i64 0, .int .i64 0, .int .i64 0] by rw [← hW]; exact Z3.out.below (below_box _ _))
  have X4 := Lib.hid (show Bx 28 w4 b #[.int .i64 a1, .int .i64 b1, .int .i64 c1, .int .i64 d1, .int .i64 x1, .int .i64 t1, .int .i64 j1, .int .i64 r1, .int .i64 n1] by rw [← hW, ← hbb]; exact Bx.made _ _ _)
  have S4 := Lib.hid (show w1.heap.size < b by rw [← hbb]; exact S3.out)
  (try rw [hbb])
  clear hW hbb K3 C3 Z3 S3
  refine reg.region_tail (drk.Dr w1.heap.size A len cap) 3 13 [some [], some [], some [(1, 11)], none, none] [(0, 10), (1, 11), (2, 12)]
    (fun w' => Keep w1.heap.size w1 w' ∧ Cur w' w1.heap.size A len cap ∧ Bx 28 w' w.heap.size #[.int .i64 0, .int .i64 0, .int .i64 0, .int .i64 0, .int .i64 0, .int .i64 0, .int .i64 0, .int .i64 0, .int .i64 0] ∧ Bx 28 w' b #[.int .i64 a1, .int .i64 b1, .int .i64 c1, .int .i64 d1, .int .i64 x1, .int .i64 t1, .int .i64 j1, .int .i64 r1, .int .i64 n1])
    (reg.rl [reg.is (.agg #[.int .i64 a1, .int .i64 b1, .int .i64 c1, .int .i64 d1, .int .i64 x1, .int .i64 t1, .int .i64 j1, .int .i64 r1, .int .i64 n1]), reg.is (.pointer (some ⟨w1.heap.size, 0, none⟩)), reg.val (fun v => ∃ x : Int, v = .int .i64 x ∧ 0 ≤ x ∧ x < 50), reg.free, reg.free])
    (by kernel_rfl) rfl (by kernel_rfl) (by kernel_rfl) rfl
    (fun u1 u2 hc hb => ⟨hc.1.trans hb.1, hb.2, bx_keep hc.2.2.1 hb.1 (by have h1 := S1.out; omega), bx_keep hc.2.2.2 hb.1 (by have h1 := S4.out; omega)⟩) (reg.rl_keep _) (⟨Keep.drew K4.out, show Cur w4.drew w1.heap.size A len cap from C4.out, Z4.out.same rfl, X4.out.same rfl⟩) (by kernel_rfl) ⟨?_, ?_, ?_, trivial⟩ ?_
  · refine fun w8 hc  K hK => ?_
    (try simp only [Act.put, List.setIfInBounds_toArray, List.set_cons_zero, List.set_cons_succ])
    refine step_load rfl 28 _ rfl b rfl 28 _ hc.2.2.2 Tryd.underlying28 rfl szB ?_
    exact hK _ _ rfl ⟨Keep.refl _ _, hc.2.1⟩
  · refine fun w8 hc  K hK => ?_
    (try simp only [Act.put, List.setIfInBounds_toArray, List.set_cons_zero, List.set_cons_succ])
    go_simp
    exact hK (.pointer (some ⟨w1.heap.size, 0, none⟩)) _ rfl ⟨Keep.refl _ _, hc.2.1⟩
  · refine fun w8 hc v1 h1 K hK => ?_
    obtain rfl : v1 = .pointer (some ⟨w1.heap.size, 0, none⟩) := h1
    (try simp only [Act.put, List.setIfInBounds_toArray, List.set_cons_zero, List.set_cons_succ])
    go_simp
    (with_reducible refine (below 50 (by omega) _ w1.heap.size A len cap hc.2.1).mono ?_)
    rintro e w5 ⟨x, rfl, hx0, hx1, hk, hcc⟩
    exact hK (.int .i64 x) _ ⟨x, rfl, hx0, hx1 (by omega)⟩ ⟨hk, hcc⟩
  refine fun w9 hc v0 h0 v1 h1 v2 h2 => ?_
  obtain rfl : v0 = .agg #[.int .i64 a1, .int .i64 b1, .int .i64 c1, .int .i64 d1, .int .i64 x1, .int .i64 t1, .int .i64 j1, .int .i64 r1, .int .i64 n1] := h0
  obtain rfl : v1 = .pointer (some ⟨w1.heap.size, 0, none⟩) := h1
  obtain ⟨x5, rfl, hx0, hx1⟩ : ∃ x : Int, v2 = .int .i64 x ∧ 0 ≤ x ∧ x < 50 := h2
  (try simp only [reg.Obs])
  (try simp only [Act.put, List.setIfInBounds_toArray, List.set_cons_zero, List.set_cons_succ])
  simp only [List.drop_succ_cons, List.drop_zero]
  have B9 := Lib.hid (keep_bel B1.out B1.out.size hc.1)
  refine list_store rfl 28 _ _ rfl (w.heap.size) #[.int .i64 a1, .int .i64 b1, .int .i64 c1, .int .i64 d1, .int .i64 x1, .int .i64 t1, .int .i64 j1, .int .i64 r1, .int .i64 n1] rfl rfl 28 _ hc.2.2.1 rfl szB (one9 _ _ _ _ _ _ _ _ _) ?_
  intro wz hz
  (try simp only [Act.put])
  go_wp2_with fail
  (try simp only [Exit.inBlock, Exit.then])
  refine bodyPost_ret (v := .tuple #[.agg #[.int .i64 a1, .int .i64 b1, .int .i64 c1, .int .i64 d1, .int .i64 x1, .int .i64 t1, .int .i64 j1, .int .i64 r1, .int .i64 n1], .int .i64 x5]) ?_ rfl ?_
  · rw [results_cell_tmp1 rfl]
    exact back2 hz.box Tryd.underlying28 rfl szB _
  · exact ⟨⟨a1, b1, c1, d1, x1, t1, j1, r1, n1⟩, x5, rfl, WalkArith.wf_i64 (by omega), hz.on B9.out (Nat.le_refl _)⟩
set_option maxRecDepth 100000 in
set_option maxHeartbeats 4000000 in
theorem drawFl (w : World) (A : Option Addr) (len cap : Nat) (hc : Code w w.heap.size A len) :
    Calls Tryd.prog 12 #[.slice A len cap] w (DsPost w) := by
  have C0 := Lib.hid hc
  clear hc
  go_enter Tryd.func12, Tryd.ntmps12
  go_wp2_with fail
  obtain ⟨w1, hW⟩ : ∃ w1, w.alloc (.cells #[.int .i64 0, .int .i64 0, .int .i64 0, .int .i64 0, .int .i64 0, .int .i64 0, .int .i64 0, .int .i64 0, .int .i64 0] 28) = w1 := ⟨_, rfl⟩
  rw [hW]
  have B1 := Lib.hid (show Below w.heap.size w w1 by rw [← hW]; exact below_box _ _)
  have Z1 := Lib.hid (show Bx 28 w1 w.heap.size #[.int .i64 0, .int .i64 0, .int .i64 0, .int .i64 0, .int .i64 0, .int .i64 0, .int .i64 0, .int .i64 0, .int .i64 0] by rw [← hW]; exact Bx.made _ _ _)
  have C1 := Lib.hid (code_later C0.out B1.out)
  clear hW
  (with_reducible refine (drawSc _ A len cap C1.out).mono ?_)
  rintro e w2 ⟨⟨a1, b1, c1, d1, x1, t1, j1, r1, n1⟩, n, rfl, hn, hb⟩
  have HN := Lib.hid hn
  have B2 := Lib.hid (B1.out.trans (hb.mono B1.out.size))
  have Z2 := Lib.hid (Z1.out.below hb)
  clear hb hn B1 Z1
  go_wp2_with (refine list_store rfl 28 _ _ rfl (w.heap.size) #[.int .i64 a1, .int .i64 b1, .int .i64 c1, .int .i64 d1, .int .i64 x1, .int .i64 t1, .int .i64 j1, .int .i64 r1, .int .i64 n1] rfl rfl 28 _ Z2.out rfl szB (one9 _ _ _ _ _ _ _ _ _) ?_; intro wz hz)
  (try simp only [Exit.inBlock, Exit.then])
  refine bodyPost_ret (v := .tuple #[.agg #[.int .i64 a1, .int .i64 b1, .int .i64 c1, .int .i64 d1, .int .i64 x1, .int .i64 t1, .int .i64 j1, .int .i64 r1, .int .i64 n1], .int .i64 n]) ?_ rfl ?_
  · rw [results_cell_tmp1 rfl]
    exact back2 hz.box Tryd.underlying28 rfl szB _
  · exact ⟨⟨a1, b1, c1, d1, x1, t1, j1, r1, n1⟩, n, rfl, HN.out, hz.on B2.out (Nat.le_refl _)⟩
end Go.Proofs.YtkfkfejjhfkobaaDoor.draw
