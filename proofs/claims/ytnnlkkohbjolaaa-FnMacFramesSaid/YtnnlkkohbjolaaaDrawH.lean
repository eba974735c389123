/- Bent bytes, and the two draws of the law of frames. Condition: the bytes that are drawn from are a slice that came in. -/
import Derived.Test.YtnnlkkohbjolaaaDrawG
namespace Go.Proofs.Ytnnlkkohbjolaaa.draw
open Go.RowKit sl harn fbx frm
set_option linter.unusedVariables false
/-- A drawn frame, the cursor gone. -/
def FrmD (w : World) (e : Ending) (w' : World) : Prop :=
  ∃ (k f t s g : Int) (m r : Bool) (d : Int) (A : Option Addr) (n c : Nat) (z : List Int), e = .returned (.agg #[.int .i64 k, .int .i64 f, .int .i64 t, .int .i64 s, .int .i64 g, .bool m, .bool r, .int .i64 d, .slice A n c]) ∧ (Small k ∧ Small f ∧ Small t ∧ Small s ∧ Small g ∧ Small d) ∧ n ≤ 1000 ∧
    Ow 5 .u8 w' w.heap.size w'.heap.size A n c z ∧ Below w.heap.size w w'
/-- Drawn bytes. -/
def SlD (w : World) (e : Ending) (w' : World) : Prop :=
  ∃ A n c zs, e = .returned (.slice A n c) ∧ n ≤ 2000 ∧ Ow 5 .u8 w' w.heap.size w'.heap.size A n c zs ∧ Below w.heap.size w w'

set_option maxRecDepth 100000 in
set_option maxHeartbeats 4000000 in
theorem bent (zs : List Int) (lo hi : Nat) (A : Option Addr) (n c : Nat) (hn : n ≤ 1000) (w : World) (p : Nat) (a : Option Addr) (len cap : Nat) (h : Rd .u8 w lo hi A n c zs) (hc : Cur w p a len cap) :
    Calls Try.prog 44 #[.pointer (some ⟨p, 0, none⟩), .slice A n c] w (SomePost 1001 p a len cap w) := by
  obtain ⟨i0, hi0, hz0, hz1, hz2⟩ := info_parts u8Info
  have HZ := Lib.hid (And.intro hi0 (And.intro hz0 (And.intro hz1 hz2)))
  clear hi0 hz0 hz1 hz2
  have C0 := Lib.hid hc
  have P0 := Lib.hid hc.lt
  have HR := Lib.hid h
  clear hc h
  go_enter Try.func44, Try.ntmps44
  go_wp2_with (at_builtin; refine wpList_app _ rfl _ _ 22 rfl 5 i0 _ .u8 Try.underlying22 HZ.out.1 HZ.out.2.1 HZ.out.2.2.1 (by rw [HZ.out.2.2.2]; omega) rfl rfl rfl (Ow.empty _ _ _) (HR.out.alloc _) (by omega) (by simp) ?_; intro A1 c1 w1 ho hb1; have Y1 := Lib.hid (show Ow 5 .u8 w1 w.heap.size w1.heap.size A1 n c1 zs by simpa using ho); have hbl := ((Below.refl w.heap.size w).alloc (Nat.le_refl _) _).trans hb1; have K1 := Lib.hid ((Keep.refl p w).later (Nat.le_refl _) hbl); have C1 := Lib.hid (Cur.later C0.out (Keep.refl p w) C0.out (Nat.le_refl _) hbl); clear ho hb1 hbl)
  (with_reducible refine (below 6 (by omega) _ p a len cap C1.out).mono ?_)
  rintro e w2 ⟨x, rfl, hx0, hx1, hk, hc⟩
  have K2 := Lib.hid (K1.out.trans hk)
  have C2 := Lib.hid hc
  have Y2 := Lib.hid (ow_keep Y1.out hk P0.out)
  have hx2 := hx1 (by omega)
  clear hk hc K1 C1 Y1
  clear hx1
  have hxx : x = 0 ∨ x = 1 ∨ x = 2 ∨ 3 ≤ x := by omega
  clear hx0 hx2
  rcases hxx with rfl | rfl | rfl | hx3
  · by_cases h0 : 0 < n
    · have h0i : (0 : Int) < n := by omega
      go_wp2_with fail
      (with_reducible refine (below n (by omega) _ p a len cap C2.out).mono ?_)
      rintro e w3 ⟨i, rfl, hi0, hi1, hk, hc⟩
      have K3 := Lib.hid (K2.out.trans hk)
      have C3 := Lib.hid hc
      have Y3 := Lib.hid (ow_keep Y2.out hk P0.out)
      have hi2 := hi1 h0i
      clear hk hc K2 C2 Y2
      clear hi1
      go_wp2_with fail
      (with_reducible refine (below 256 (by omega) _ p a len cap C3.out).mono ?_)
      rintro e w4 ⟨v, rfl, hv0, hv1, hk, hc⟩
      have K4 := Lib.hid (K3.out.trans hk)
      have C4 := Lib.hid hc
      have Y4 := Lib.hid (ow_keep Y3.out hk P0.out)
      have hv2 := hv1 (by omega)
      clear hk hc K3 C3 Y3
      clear hv1
      obtain ⟨j, rfl⟩ := Int.eq_ofNat_of_zero_le hi0
      have e1 : IntKind.u8.wrap v = v := by rw [IntKind.wrap_u8]; omega
      obtain ⟨b, rfl, _⟩ := own.own_some Y4.out h0
      have hcell := own.cell_of Y4.out (j := j) (by omega)
      have hfree := Y4.out.free rfl j
      go_wp2_with fail
      go_ret
      have hbl : Below w.heap.size w4 (w4.setCell ⟨b, j, none⟩ (.int .u8 v)) := ((Below.refl w4.heap.size w4).mono (by have := K4.out.size; omega)).setCell (p := ⟨b, j, none⟩) (by show w.heap.size ≤ b; assumption) _
      exact ⟨_, _, _, _, rfl, by omega, (own.ow_set Y4.out j v (WalkArith.wf_u8 (by omega))).up, K4.out.later (Nat.le_refl _) hbl, Cur.later C0.out K4.out C4.out (Nat.le_refl _) hbl⟩
    · have h0i : ¬ (0 : Int) < n := by omega
      go_wp2_with fail
      go_ret
      exact ⟨_, _, _, zs, rfl, by omega, Y2.out.up, K2.out, C2.out⟩
  · have e1 : IntKind.i64.wrap ((n : Int) + 1) = n + 1 := IntWalk.i64_in _ (by omega)
    go_wp2_with fail
    (with_reducible refine (below (n + 1) (by omega) _ p a len cap C2.out).mono ?_)
    rintro e w3 ⟨i, rfl, hi0, hi1, hk, hc⟩
    have K3 := Lib.hid (K2.out.trans hk)
    have C3 := Lib.hid hc
    have Y3 := Lib.hid (ow_keep Y2.out hk P0.out)
    have hi2 := hi1 (by omega)
    clear hk hc K2 C2 Y2
    clear hi1
    obtain ⟨j, rfl⟩ := Int.eq_ofNat_of_zero_le hi0
    rcases Y3.out.form with ⟨rfl, rfl, rfl⟩ | ⟨g, cur, rfl, _, _, _, hcap, _⟩
    · obtain rfl : j = 0 := by omega
      have hs := fun W => slice_none (P := Try.prog) 22 5 i0 Try.underlying22 HZ.out.1 W
      go_wp2_with fail
      go_ret
      exact ⟨_, _, _, [], rfl, by omega, ow_none _ _ _ _ _ (Nat.le_refl _), K3.out, C3.out⟩
    · have hs := fun W => slice_low (P := Try.prog) 22 5 i0 Try.underlying22 HZ.out.1 g n c1 j (by omega) W
      go_wp2_with fail
      go_ret
      exact ⟨_, _, _, _, rfl, by omega, (ow_take Y3.out (show j ≤ n by omega)).up, K3.out, C3.out⟩
  · go_wp2_with fail
    (with_reducible refine (pickIn 0 255 4 (by omega) (by omega) _ p a len cap C2.out #[.int .i64 0, .int .i64 1, .int .i64 128, .int .i64 255] rfl (by kernel_rfl)).mono ?_)
    rintro e w3 ⟨v, rfl, hv0, hv1, hk, hc⟩
    have K3 := Lib.hid (K2.out.trans hk)
    have C3 := Lib.hid hc
    have Y3 := Lib.hid (ow_keep Y2.out hk P0.out)
    clear hk hc K2 C2 Y2
    have e1 : IntKind.u8.wrap v = v := by rw [IntKind.wrap_u8]; omega
    have HW := Lib.hid (show (Lit.int .u8 v).wf = true from WalkArith.wf_u8 (by omega))
    go_wp2_with (at_builtin; refine wpList_app _ rfl _ _ 22 rfl 5 i0 _ .u8 Try.underlying22 HZ.out.1 HZ.out.2.1 HZ.out.2.2.1 (by rw [HZ.out.2.2.2]; omega) rfl rfl rfl (Y3.out.alloc _) (Rd.one .u8 _ _ _ HW.out) (by omega) (by have := K3.out.size; simp; omega) ?_; intro A5 c5 w5 ho hb1; have Y5 := Lib.hid ho; have hbl := (((Below.refl w3.heap.size w3).mono (show w.heap.size ≤ w3.heap.size by have := K3.out.size; omega)).alloc (by have := K3.out.size; omega) (.cells #[.int .u8 v] 5)).trans hb1; have K5 := Lib.hid (K3.out.later (Nat.le_refl _) hbl); have C5 := Lib.hid (Cur.later C0.out K3.out C3.out (Nat.le_refl _) hbl); clear ho hb1 hbl)
    go_ret
    exact ⟨_, _, _, _, rfl, by omega, Y5.out, K5.out, C5.out⟩
  · have n0 : (x == 0) = false := by simp; omega
    have n1 : (x == 1) = false := by simp; omega
    have n2 : (x == 2) = false := by simp; omega
    go_wp2_with fail
    go_ret
    exact ⟨_, _, _, zs, rfl, by omega, Y2.out.up, K2.out, C2.out⟩
set_option maxRecDepth 100000 in
set_option maxHeartbeats 4000000 in
theorem drawVf (w : World) (a : Option Addr) (len cap : Nat) (hc : Code w w.heap.size a len) :
    Calls Try.prog 40 #[.slice a len cap] w (FrmD w) := by
  have HC := Lib.hid hc
  clear hc
  go_enter Try.func40, Try.ntmps40
  go_wp2_with fail
  obtain ⟨w1, hW⟩ : ∃ w1, w.alloc (.cells #[.int .i64 0, .int .i64 0, .int .i64 0, .int .i64 0, .int .i64 0, .bool false, .bool false, .int .i64 0, .slice none 0 0] 25) = w1 := ⟨_, rfl⟩
  rw [hW]
  have B1 := Lib.hid (show Below w.heap.size w w1 by rw [← hW]; exact below_box _ _)
  have Z1 := Lib.hid (show Bx 25 w1 w.heap.size #[.int .i64 0, .int .i64 0, .int .i64 0, .int .i64 0, .int .i64 0, .bool false, .bool false, .int .i64 0, .slice none 0 0] by rw [← hW]; exact Bx.made _ _ _)
  clear hW
  have C1 := Lib.hid (code_later HC.out B1.out)
  (with_reducible refine (new _ a len cap C1.out).mono ?_)
  rintro e w2 ⟨rfl, hk, hs, hc⟩
  have K2 := Lib.hid hk
  have C2 := Lib.hid hc
  have Z2 := Lib.hid (bx_keep Z1.out hk (by have := Z1.out.lt; omega))
  have S1 := Lib.hid (show w.heap.size < w1.heap.size from Z1.out.lt)
  clear hk hc hs
  go_wp2_with fail
  (with_reducible refine (anyFrm _ w1.heap.size a len cap C2.out).mono ?_)
  rintro e w3 ⟨k, f, t, s, g, m, r, d, A, n, c, z, rfl, hs, hn, ho, hk, hc⟩
  have B3 := Lib.hid (B1.out.trans ((keep_below K2.out hk).mono B1.out.size))
  have Z3 := Lib.hid (bx_keep Z2.out hk (by have := S1.out; omega))
  have Y3 := Lib.hid ho
  have HS := Lib.hid hs
  have HN := Lib.hid hn
  have S2 := Lib.hid (show w1.heap.size ≤ w2.heap.size from K2.out.size)
  clear ho hk hc hs hn
  have z0 : w3.cell? ⟨w.heap.size, 0, none⟩ = some (.int .i64 0) := Z3.out.cell 0
  have z1 : w3.cell? ⟨w.heap.size, 1, none⟩ = some (.int .i64 0) := Z3.out.cell 1
  have z2 : w3.cell? ⟨w.heap.size, 2, none⟩ = some (.int .i64 0) := Z3.out.cell 2
  have z3 : w3.cell? ⟨w.heap.size, 3, none⟩ = some (.int .i64 0) := Z3.out.cell 3
  have z4 : w3.cell? ⟨w.heap.size, 4, none⟩ = some (.int .i64 0) := Z3.out.cell 4
  have z5 : w3.cell? ⟨w.heap.size, 5, none⟩ = some (.bool false) := Z3.out.cell 5
  have z6 : w3.cell? ⟨w.heap.size, 6, none⟩ = some (.bool false) := Z3.out.cell 6
  have z7 : w3.cell? ⟨w.heap.size, 7, none⟩ = some (.int .i64 0) := Z3.out.cell 7
  have z8 : w3.cell? ⟨w.heap.size, 8, none⟩ = some (.slice none 0 0) := Z3.out.cell 8
  have u0 : w3.frozen? ⟨w.heap.size, 0, none⟩ = false := Z3.out.free 0
  have u1 : w3.frozen? ⟨w.heap.size, 1, none⟩ = false := Z3.out.free 1
  have u2 : w3.frozen? ⟨w.heap.size, 2, none⟩ = false := Z3.out.free 2
  have u3 : w3.frozen? ⟨w.heap.size, 3, none⟩ = false := Z3.out.free 3
  have u4 : w3.frozen? ⟨w.heap.size, 4, none⟩ = false := Z3.out.free 4
  have u5 : w3.frozen? ⟨w.heap.size, 5, none⟩ = false := Z3.out.free 5
  have u6 : w3.frozen? ⟨w.heap.size, 6, none⟩ = false := Z3.out.free 6
  have u7 : w3.frozen? ⟨w.heap.size, 7, none⟩ = false := Z3.out.free 7
  have u8 : w3.frozen? ⟨w.heap.size, 8, none⟩ = false := Z3.out.free 8
  go_wp2_with fail
  (try simp only [Exit.inBlock, Exit.then])
  refine bodyPost_ret (v := .agg #[.int .i64 k, .int .i64 f, .int .i64 t, .int .i64 s, .int .i64 g, .bool m, .bool r, .int .i64 d, .slice A n c]) ?_ rfl ?_
  · rw [results_cell1 rfl]
    go_simp
  · exact ⟨_, _, _, _, _, _, _, _, _, _, _, z, rfl, HS.out, HN.out, ((ow_nine Y3.out (by have := S1.out; have := S2.out; omega) _ _ _ _ _ _ _ _ _).down (by have := S1.out; have := S2.out; omega)).up, below_nine B3.out (Nat.le_refl _) _ _ _ _ _ _ _ _ _⟩
set_option maxRecDepth 100000 in
set_option maxHeartbeats 4000000 in
theorem drawEf (w : World) (a : Option Addr) (len cap : Nat) (hc : Code w w.heap.size a len) :
    Calls Try.prog 12 #[.slice a len cap] w (FrmD w) := by
  have HC := Lib.hid hc
  clear hc
  go_enter Try.func12, Try.ntmps12
  go_wp2_with fail
  obtain ⟨w1, hW⟩ : ∃ w1, w.alloc (.cells #[.int .i64 0, .int .i64 0, .int .i64 0, .int .i64 0, .int .i64 0, .bool false, .bool false, .int .i64 0, .slice none 0 0] 25) = w1 := ⟨_, rfl⟩
  rw [hW]
  have B1 := Lib.hid (show Below w.heap.size w w1 by rw [← hW]; exact below_box _ _)
  have Z1 := Lib.hid (show Bx 25 w1 w.heap.size #[.int .i64 0, .int .i64 0, .int .i64 0, .int .i64 0, .int .i64 0, .bool false, .bool false, .int .i64 0, .slice none 0 0] by rw [← hW]; exact Bx.made _ _ _)
  clear hW
  have C1 := Lib.hid (code_later HC.out B1.out)
  have S1 := Lib.hid (show w.heap.size < w1.heap.size from Z1.out.lt)
  have S2 := Lib.hid (Nat.le_refl w1.heap.size)
  (with_reducible refine (drawVf _ a len cap C1.out).mono ?_)
  rintro e w3 ⟨k, f, t, s, g, m, r, d, A, n, c, z, rfl, hs, hn, ho, hb⟩
  have B3 := Lib.hid (B1.out.trans (hb.mono B1.out.size))
  have Z3 := Lib.hid (Z1.out.below hb)
  have Y3 := Lib.hid ho
  have HS := Lib.hid hs
  have HN := Lib.hid hn
  clear ho hb hs hn
  have z0 : w3.cell? ⟨w.heap.size, 0, none⟩ = some (.int .i64 0) := Z3.out.cell 0
  have z1 : w3.cell? ⟨w.heap.size, 1, none⟩ = some (.int .i64 0) := Z3.out.cell 1
  have z2 : w3.cell? ⟨w.heap.size, 2, none⟩ = some (.int .i64 0) := Z3.out.cell 2
  have z3 : w3.cell? ⟨w.heap.size, 3, none⟩ = some (.int .i64 0) := Z3.out.cell 3
  have z4 : w3.cell? ⟨w.heap.size, 4, none⟩ = some (.int .i64 0) := Z3.out.cell 4
  have z5 : w3.cell? ⟨w.heap.size, 5, none⟩ = some (.bool false) := Z3.out.cell 5
  have z6 : w3.cell? ⟨w.heap.size, 6, none⟩ = some (.bool false) := Z3.out.cell 6
  have z7 : w3.cell? ⟨w.heap.size, 7, none⟩ = some (.int .i64 0) := Z3.out.cell 7
  have z8 : w3.cell? ⟨w.heap.size, 8, none⟩ = some (.slice none 0 0) := Z3.out.cell 8
  have u0 : w3.frozen? ⟨w.heap.size, 0, none⟩ = false := Z3.out.free 0
  have u1 : w3.frozen? ⟨w.heap.size, 1, none⟩ = false := Z3.out.free 1
  have u2 : w3.frozen? ⟨w.heap.size, 2, none⟩ = false := Z3.out.free 2
  have u3 : w3.frozen? ⟨w.heap.size, 3, none⟩ = false := Z3.out.free 3
  have u4 : w3.frozen? ⟨w.heap.size, 4, none⟩ = false := Z3.out.free 4
  have u5 : w3.frozen? ⟨w.heap.size, 5, none⟩ = false := Z3.out.free 5
  have u6 : w3.frozen? ⟨w.heap.size, 6, none⟩ = false := Z3.out.free 6
  have u7 : w3.frozen? ⟨w.heap.size, 7, none⟩ = false := Z3.out.free 7
  have u8 : w3.frozen? ⟨w.heap.size, 8, none⟩ = false := Z3.out.free 8
  go_wp2_with fail
  (try simp only [Exit.inBlock, Exit.then])
  refine bodyPost_ret (v := .agg #[.int .i64 k, .int .i64 f, .int .i64 t, .int .i64 s, .int .i64 g, .bool m, .bool r, .int .i64 d, .slice A n c]) ?_ rfl ?_
  · rw [results_cell1 rfl]
    go_simp
  · exact ⟨_, _, _, _, _, _, _, _, _, _, _, z, rfl, HS.out, HN.out, ((ow_nine Y3.out (by have := S1.out; have := S2.out; omega) _ _ _ _ _ _ _ _ _).down (by have := S1.out; have := S2.out; omega)).up, below_nine B3.out (Nat.le_refl _) _ _ _ _ _ _ _ _ _⟩
set_option maxRecDepth 100000 in
set_option maxHeartbeats 4000000 in
theorem drawDf (w : World) (a : Option Addr) (len cap : Nat) (hc : Code w w.heap.size a len) :
    Calls Try.prog 13 #[.slice a len cap] w (SlD w) := by
  have HC := Lib.hid hc
  clear hc
  go_enter Try.func13, Try.ntmps13
  go_wp2_with fail
  (with_reducible refine (new _ a len cap HC.out).mono ?_)
  rintro e w1 ⟨rfl, hk, hs, hc⟩
  have K1 := Lib.hid hk
  have C1 := Lib.hid hc
  have S1 := Lib.hid hs
  clear hk hc hs
  go_wp2_with fail
  (with_reducible refine (frm_ _ w.heap.size a len cap C1.out).mono ?_)
  rintro e w2 ⟨k, f, t, s, g, m, r, d, A, n, c, z, rfl, hs, hn, ho, hk, hc⟩
  have K2 := Lib.hid (K1.out.trans hk)
  have C2 := Lib.hid hc
  have Y2 := Lib.hid ho
  have S2 := Lib.hid (show w1.heap.size ≤ w2.heap.size from hk.size)
  clear ho hs K1
  have CQ := Lib.hid C1.out
  have KQ := Lib.hid hk
  clear hk hc C1
  go_wp2_with fail
  (with_reducible refine (specEf k f t s g m r d A n c z _ _ _ Y2.out.rd (by omega)).mono ?_)
  obtain ⟨el, hel⟩ : ∃ el, ef ⟨k, f, t, s, g, m, r, d, z⟩ = el := ⟨_, rfl⟩
  have HEL := Lib.hid (show el.length ≤ 144 by rw [← hel]; exact ef_len _)
  rw [hel]
  rintro e w3 ⟨E, en, ec, rfl, ho, hb⟩
  have hen : en ≤ 144 := by have h1 := ho.len; have h2 := HEL.out; omega
  have SE := Lib.hid S2.out
  have E3 := Lib.hid ho
  have hbw : Below w1.heap.size w2 w3 := hb.mono S2.out
  have K3 := Lib.hid (K2.out.later (B := w1.heap.size) (by have := S1.out; omega) hbw)
  have C3 := Lib.hid (Cur.later (w := w1) (w1 := w2) (w2 := w3) (B := w1.heap.size) CQ.out KQ.out C2.out (Nat.le_refl _) hbw)
  clear ho hb hbw hel K2 C2 Y2 CQ KQ
  go_wp2_with fail
  (with_reducible refine (once 3 (by omega) _ w.heap.size a len cap C3.out).mono ?_)
  rintro e w4 ⟨b1, rfl, hk, hc⟩
  have K4 := Lib.hid (K3.out.trans hk)
  have C4 := Lib.hid hc
  have E4 := Lib.hid (ow_keep E3.out hk (by have := S1.out; have := SE.out; omega))
  clear hk hc K3 C3 E3
  cases b1 with
  | true =>
    go_wp2_with fail
    (with_reducible refine (bent el _ _ E en ec (by omega) _ w.heap.size a len cap E4.out.rd C4.out).mono ?_)
    rintro e w5 ⟨A5, n5, c5, z5, rfl, hn5, ho, hk, hc⟩
    have Y5 := Lib.hid ho
    have B5 := Lib.hid (keep_below K4.out hk)
    have S5 := Lib.hid (show w.heap.size ≤ w4.heap.size from K4.out.size)
    clear ho hk hc
    go_wp2_with fail
    go_ret
    exact ⟨_, _, _, z5, rfl, by omega, Y5.out.down S5.out, B5.out⟩
  | false =>
    go_wp2_with fail
    (with_reducible refine (once 4 (by omega) _ w.heap.size a len cap C4.out).mono ?_)
    rintro e w5 ⟨b2, rfl, hk, hc⟩
    have K5 := Lib.hid (K4.out.trans hk)
    have C5 := Lib.hid hc
    have E5 := Lib.hid (ow_keep E4.out hk (by have := S1.out; have := SE.out; omega))
    clear hk hc K4 C4 E4
    cases b2 with
    | true =>
      go_wp2_with fail
      (with_reducible refine (below 6 (by omega) _ w.heap.size a len cap C5.out).mono ?_)
      rintro e w6 ⟨q, rfl, hq0, hq1, hk, hc⟩
      have K6 := Lib.hid (K5.out.trans hk)
      have C6 := Lib.hid hc
      have E6 := Lib.hid (ow_keep E5.out hk (by have := S1.out; have := SE.out; omega))
      have B6 := Lib.hid (keep_below K5.out hk)
      clear hk hc K5 C5 E5
      have hq2 := hq1 (by omega)
      have HW := Lib.hid (show Wf .i64 [1, 0, 1, 2, 3, q, 0] from Wf.of_i64 fun x hx => by simp at hx; omega)
      have H42 := Lib.hid (uvs.encs_len_all [1, 0, 1, 2, 3, q, 0])
      go_wp2_with fail
      (with_reducible refine (uvs.specEncs _ _ (some ⟨w6.heap.size, 0, none⟩) 7 7 [1, 0, 1, 2, 3, q, 0] _ (Ow.lit (k := .i64) (E := 3) (n := 7) w6 #[.int .i64 1, .int .i64 0, .int .i64 1, .int .i64 2, .int .i64 3, .int .i64 q, .int .i64 0] [1, 0, 1, 2, 3, q, 0] rfl HW.out (by simp [maxLen]) rfl).rd (by omega)).mono ?_)
      rintro e w7 ⟨A7, n7, c7, rfl, ho, hb⟩
      have Y7 := Lib.hid ho
      have B7 := Lib.hid ((B6.out.alloc B6.out.size (.cells #[.int .i64 1, .int .i64 0, .int .i64 1, .int .i64 2, .int .i64 3, .int .i64 q, .int .i64 0] 3)).trans (hb.mono (by have := B6.out.size; simp; omega)))
      clear ho hb
      go_wp2_with fail
      (with_reducible refine (crcs.specAppend (uvs.encs [1, 0, 1, 2, 3, q, 0]) _ _ A7 n7 c7 _ Y7.out.rd (by have h1 := Y7.out.len; have h3 := H42.out; simp at h3; omega)).mono ?_)
      rintro e w8 ⟨A8, n8, c8, rfl, ho, hb⟩
      have Y8 := Lib.hid ho
      have B8 := Lib.hid (B7.out.trans (hb.mono B7.out.size))
      have hn8 : n8 ≤ 2000 := by have h0 := ho.len; rw [crcs.wc_len] at h0; have h1 := Y7.out.len; have h3 := H42.out; simp at h3; omega
      clear ho hb
      go_wp2_with fail
      go_ret
      exact ⟨_, _, _, _, rfl, hn8, Y8.out.down B7.out.size, B8.out⟩
    | false =>
      have B5 := Lib.hid (keep_below K5.out (Keep.refl _ _))
      go_wp2_with fail
      go_ret
      exact ⟨_, _, _, el, rfl, by omega, (E5.out.down (by have := S1.out; have := SE.out; omega)).up, B5.out⟩
end Go.Proofs.Ytnnlkkohbjolaaa.draw
