/- Bytes that were bent, in the draws' words. Condition: the bytes that are drawn from are a slice that came in. -/
import Derived.Test.YtalfihfielgmpaaDrawB
import Derived.Test.YtalfihfielgmpaaDraw2
import Derived.Test.YtalfihfielgmpaaOwn
import Derived.Test.YtalfihfielgmpaaBox
namespace Go.Proofs.Ytalfihfielgmpaa.draw
open Go.RowKit sl harn bx
set_option linter.unusedVariables false
theorem Keep.later {p : Nat} {w w1 w2 : World} (h : Keep p w w1) {B : Nat} (hB : w.heap.size ≤ B) (hb : Below B w1 w2) : Keep p w w2 :=
  ⟨hb.os.trans h.os, hb.tape.trans h.tape, hb.output.trans h.output, Nat.le_trans h.size hb.size, fun j hj hn => (hb.block j (by omega)).trans (h.block j hj hn)⟩
/-- The cursor behind a change above it. -/
theorem Cur.later {w w1 w2 : World} {p B : Nat} {a : Option Addr} {len cap : Nat} (h0 : Cur w p a len cap) (hk : Keep p w w1) (h : Cur w1 p a len cap) (hB : w.heap.size ≤ B) (hb : Below B w1 w2) : Cur w2 p a len cap := by
  have k2 := hk.later hB hb
  have hp := h0.lt
  obtain ⟨-, i, g, hi, hblk⟩ := h
  exact ⟨h0.1.keep k2, i, g, hi, (hb.block p (by omega)).trans hblk⟩
theorem slice_low {P : Program} (t E : TypeId) (i0 : TypeInfo) (hu : P.underlying t = some (.slice E)) (hi : P.info? E = some i0) (b n c j : Nat) (hj : j ≤ c) (W : World) :
    (Instr.slice t (.slice (some ⟨b, 0, none⟩) n c) none (some (.int .i64 (j : Int))) none).run P W = .ok (.slice (some ⟨b, 0, none⟩) j c) W := by
  simp [Instr.slice, run_underlying hu, Instr.sliceBounds, Instr.sliceBound, sizeOf, typeInfo, hi, go_sem, Addr.add, hj]
theorem slice_none {P : Program} (t E : TypeId) (i0 : TypeInfo) (hu : P.underlying t = some (.slice E)) (hi : P.info? E = some i0) (W : World) :
    (Instr.slice t (.slice none 0 0) none (some (.int .i64 0)) none).run P W = .ok (.slice none 0 0) W := by
  simp [Instr.slice, run_underlying hu, Instr.sliceBounds, Instr.sliceBound, sizeOf, typeInfo, hi, go_sem]
theorem ow_take {E : TypeId} {k : IntKind} {w : World} {lo hi n cap : Nat} {b : Nat} {zs : List Int} (h : Ow E k w lo hi (some ⟨b, 0, none⟩) n cap zs) {m : Nat} (hm : m ≤ n) : Ow E k w lo hi (some ⟨b, 0, none⟩) m cap (zs.take m) := by
  have hl := h.len
  rcases h.form with ⟨e, _⟩ | ⟨g, cur, e, g1, g2, hb, g3, g4, g5, g6⟩
  · cases e
  · injection e with e; injection e with e _
    subst e
    refine ⟨⟨by simp; omega, Or.inr ⟨b, cap, cur, rfl, g1, hb, by omega, g4, by omega, ?_⟩⟩, h.wf.take m, h.hi_, h.2.2.2⟩
    rw [Nat.mul_one]
    have e2 : cur.toList.take m = (cur.toList.take n).take m := by rw [List.take_take, Nat.min_eq_left hm]
    rw [e2, g6, List.map_take]

set_option maxRecDepth 100000 in
set_option maxHeartbeats 4000000 in
theorem bent (zs : List Int) (lo hi : Nat) (A : Option Addr) (n c : Nat) (hn : n ≤ 1000) (w : World) (p : Nat) (a : Option Addr) (len cap : Nat) (h : Rd .u8 w lo hi A n c zs) (hc : Cur w p a len cap) :
    Calls Try.prog 43 #[.pointer (some ⟨p, 0, none⟩), .slice A n c] w (SomePost 1001 p a len cap w) := by
  obtain ⟨i0, hi0, hz0, hz1, hz2⟩ := info_parts u8Info
  have HZ := Lib.hid (And.intro hi0 (And.intro hz0 (And.intro hz1 hz2)))
  clear hi0 hz0 hz1 hz2
  have C0 := Lib.hid hc
  have P0 := Lib.hid hc.lt
  have HR := Lib.hid h
  clear hc h
  go_enter Try.func43, Try.ntmps43
  go_wp2_with (at_builtin; refine wpList_app _ rfl _ _ 22 rfl 5 i0 _ .u8 Try.underlying22 HZ.out.1 HZ.out.2.1 HZ.out.2.2.1 (by rw [HZ.out.2.2.2]; omega) rfl rfl rfl (Ow.empty _ _ _) (HR.out.alloc _) (by omega) (by simp) ?_; intro A1 c1 w1 ho hb1; have Y1 := Lib.hid (show Ow 5 .u8 w1 w.heap.size w1.heap.size A1 n c1 zs by simpa using ho); have hbl := ((Below.refl w.heap.size w).alloc (Nat.le_refl _) _).trans hb1; have K1 := Lib.hid ((Keep.refl p w).later (Nat.le_refl _) hbl); have C1 := Lib.hid (Cur.later C0.out (Keep.refl p w) C0.out (Nat.le_refl _) hbl); clear ho hb1 hbl)
  (with_reducible refine (below 6 (by omega) _ p a len cap C1.out).mono ?_)
  rintro e w2 ⟨x, rfl, hx0, hx1, hk, hc⟩
  have K2 := Lib.hid (K1.out.trans hk)
  have C2 := Lib.hid hc
  have Y2 := Lib.hid (ow_keep Y1.out hk P0.out)
  have hx2 := hx1 (by omega)
  clear hk hc K1 C1 Y1
  clear hx1
  have hxx : x = 0 ∨ x = 1 ∨ x = 2 ∨ 3 ≤ x := by omega
  clear hx0 hx2
  rcases hxx with rfl | rfl | rfl | hx3
  · by_cases h0 : 0 < n
    · have h0i : (0 : Int) < n := by omega
      go_wp2_with fail
      (with_reducible refine (below n (by omega) _ p a len cap C2.out).mono ?_)
      rintro e w3 ⟨i, rfl, hi0, hi1, hk, hc⟩
      have K3 := Lib.hid (K2.out.trans hk)
      have C3 := Lib.hid hc
      have Y3 := Lib.hid (ow_keep Y2.out hk P0.out)
      have hi2 := hi1 h0i
      clear hk hc K2 C2 Y2
      clear hi1
      go_wp2_with fail
      (with_reducible refine (below 256 (by omega) _ p a len cap C3.out).mono ?_)
      rintro e w4 ⟨v, rfl, hv0, hv1, hk, hc⟩
      have K4 := Lib.hid (K3.out.trans hk)
      have C4 := Lib.hid hc
      have Y4 := Lib.hid (ow_keep Y3.out hk P0.out)
      have hv2 := hv1 (by omega)
      clear hk hc K3 C3 Y3
      clear hv1
      obtain ⟨j, rfl⟩ := Int.eq_ofNat_of_zero_le hi0
      have e1 : IntKind.u8.wrap v = v := by rw [IntKind.wrap_u8]; omega
      obtain ⟨b, rfl, _⟩ := own.own_some Y4.out h0
      have hcell := own.cell_of Y4.out (j := j) (by omega)
      have hfree := Y4.out.free rfl j
      go_wp2_with fail
      go_ret
      have hbl : Below w.heap.size w4 (w4.setCell ⟨b, j, none⟩ (.int .u8 v)) := ((Below.refl w4.heap.size w4).mono (by have := K4.out.size; omega)).setCell (p := ⟨b, j, none⟩) (by show w.heap.size ≤ b; assumption) _
      exact ⟨_, _, _, _, rfl, by omega, (own.ow_set Y4.out j v (WalkArith.wf_u8 (by omega))).up, K4.out.later (Nat.le_refl _) hbl, Cur.later C0.out K4.out C4.out (Nat.le_refl _) hbl⟩
    · have h0i : ¬ (0 : Int) < n := by omega
      go_wp2_with fail
      go_ret
      exact ⟨_, _, _, zs, rfl, by omega, Y2.out.up, K2.out, C2.out⟩
  · have e1 : IntKind.i64.wrap ((n : Int) + 1) = n + 1 := IntWalk.i64_in _ (by omega)
    go_wp2_with fail
    (with_reducible refine (below (n + 1) (by omega) _ p a len cap C2.out).mono ?_)
    rintro e w3 ⟨i, rfl, hi0, hi1, hk, hc⟩
    have K3 := Lib.hid (K2.out.trans hk)
    have C3 := Lib.hid hc
    have Y3 := Lib.hid (ow_keep Y2.out hk P0.out)
    have hi2 := hi1 (by omega)
    clear hk hc K2 C2 Y2
    clear hi1
    obtain ⟨j, rfl⟩ := Int.eq_ofNat_of_zero_le hi0
    rcases Y3.out.form with ⟨rfl, rfl, rfl⟩ | ⟨g, cur, rfl, _, _, _, hcap, _⟩
    · obtain rfl : j = 0 := by omega
      have hs := fun W => slice_none (P := Try.prog) 22 5 i0 Try.underlying22 HZ.out.1 W
      go_wp2_with fail
      go_ret
      exact ⟨_, _, _, [], rfl, by omega, ow_none _ _ _ _ _ (Nat.le_refl _), K3.out, C3.out⟩
    · have hs := fun W => slice_low (P := Try.prog) 22 5 i0 Try.underlying22 HZ.out.1 g n c1 j (by omega) W
      go_wp2_with fail
      go_ret
      exact ⟨_, _, _, _, rfl, by omega, (ow_take Y3.out (show j ≤ n by omega)).up, K3.out, C3.out⟩
  · go_wp2_with fail
    (with_reducible refine (pickIn 0 255 4 (by omega) (by omega) _ p a len cap C2.out #[.int .i64 0, .int .i64 1, .int .i64 128, .int .i64 255] rfl (by kernel_rfl)).mono ?_)
    rintro e w3 ⟨v, rfl, hv0, hv1, hk, hc⟩
    have K3 := Lib.hid (K2.out.trans hk)
    have C3 := Lib.hid hc
    have Y3 := Lib.hid (ow_keep Y2.out hk P0.out)
    clear hk hc K2 C2 Y2
    have e1 : IntKind.u8.wrap v = v := by rw [IntKind.wrap_u8]; omega
    have HW := Lib.hid (show (Lit.int .u8 v).wf = true from WalkArith.wf_u8 (by omega))
    go_wp2_with (at_builtin; refine wpList_app _ rfl _ _ 22 rfl 5 i0 _ .u8 Try.underlying22 HZ.out.1 HZ.out.2.1 HZ.out.2.2.1 (by rw [HZ.out.2.2.2]; omega) rfl rfl rfl (Y3.out.alloc _) (Rd.one .u8 _ _ _ HW.out) (by omega) (by have := K3.out.size; simp; omega) ?_; intro A5 c5 w5 ho hb1; have Y5 := Lib.hid ho; have hbl := (((Below.refl w3.heap.size w3).mono (show w.heap.size ≤ w3.heap.size by have := K3.out.size; omega)).alloc (by have := K3.out.size; omega) (.cells #[.int .u8 v] 5)).trans hb1; have K5 := Lib.hid (K3.out.later (Nat.le_refl _) hbl); have C5 := Lib.hid (Cur.later C0.out K3.out C3.out (Nat.le_refl _) hbl); clear ho hb1 hbl)
    go_ret
    exact ⟨_, _, _, _, rfl, by omega, Y5.out, K5.out, C5.out⟩
  · have n0 : (x == 0) = false := by simp; omega
    have n1 : (x == 1) = false := by simp; omega
    have n2 : (x == 2) = false := by simp; omega
    go_wp2_with fail
    go_ret
    exact ⟨_, _, _, zs, rfl, by omega, Y2.out.up, K2.out, C2.out⟩
end Go.Proofs.Ytalfihfielgmpaa.draw
