/- The law function of the convolutional code (FnConvolution) returns true and leaves what was there. Condition: the argument is a slice of bytes that came in. -/
import Derived.Test.YtnffklompocflaaDraw8
import Derived.Test.YtnffklompocflaaBits4
import Derived.Test.YtnffklompocflaaSame
import Derived.Test.YtnffklompocflaaAt
namespace Go.Proofs.Ytnffklompocflaa.convLaw
open Go.RowKit sl harn cvm cvs
set_option linter.unusedVariables false

theorem part_push {kd : IntKind} {E : TypeId} {w wr : World} {n k : Nat} {ys : List Int} (h : Part kd E w wr n k ys) (hk : k < n) (hl : ys.length = k) (v : Int) : Part kd E w (wr.setCell ⟨w.heap.size, k, none⟩ (.int kd v)) n (k + 1) (ys ++ [v]) := by
  have h2 : Part kd E w wr n k (ys ++ [v]) := by
    obtain ⟨cs, h1, h2, h3, h4⟩ := h
    refine ⟨cs, h1, h2, fun j hj => ?_, h4⟩
    rw [h3 j hj, List.getD_eq_getElem?_getD, List.getD_eq_getElem?_getD, List.getElem?_append_left (by omega)]
  have := h2.step hk
  have e : (ys ++ [v]).getD k 0 = v := by rw [List.getD_eq_getElem?_getD, List.getElem?_append_right (by omega), hl, Nat.sub_self]; rfl
  rw [e] at this
  exact this
/-- The other bits, the first k of them. -/
def Others (w wr : World) (n k : Nat) : Prop := ∃ ys, ys.length = k ∧ bm.isb ys = true ∧ Part .i64 3 w wr n k ys
theorem Others.below {w wr : World} {n k : Nat} (h : Others w wr n k) : Below w.heap.size w wr := by
  obtain ⟨_, _, _, _, _, _, _, h4⟩ := h
  exact h4
theorem Others.cell {w wr : World} {n k : Nat} (h : Others w wr n k) (hk : k < n) : ∃ v, wr.cell? ⟨w.heap.size, k, none⟩ = some v := by
  obtain ⟨_, _, _, h⟩ := h
  exact h.cell hk
theorem Others.free {w wr : World} {n k : Nat} (h : Others w wr n k) (i : Nat) : wr.frozen? ⟨w.heap.size, i, none⟩ = false := by
  obtain ⟨_, _, _, h⟩ := h
  exact h.free i
theorem Others.step {w wr : World} {n k : Nat} (h : Others w wr n k) (hk : k < n) {v : Int} (hv : 0 ≤ v ∧ v ≤ 1) : Others w (wr.setCell ⟨w.heap.size, k, none⟩ (.int .i64 v)) n (k + 1) := by
  obtain ⟨ys, h1, h2, h3⟩ := h
  refine ⟨ys ++ [v], by simp [h1], (bm.isb_iff _).2 fun z hz => ?_, part_push h3 hk h1 v⟩
  rcases List.mem_append.1 hz with hz | hz
  · exact bm.isb_all h2 z hz
  · have : z = v := by simpa using hz
    rw [this]; exact hv
set_option maxRecDepth 100000 in
set_option maxHeartbeats 4000000 in
theorem walk (a : Option Addr) (len cap : Nat) (z0 : List Int) (w : World) (r0 : kit.IsRow .u8 w a len cap z0) :
    Calls Try.prog 3 #[.slice a len cap] w fun e w' => e = .returned (.bool true) ∧ Below w.heap.size w w' := by
  have HC := Lib.hid (draw.code_of_row r0)
  obtain ⟨cs, hcs⟩ := Rd.of_row r0
  have HR := Lib.hid hcs
  have hlen : (len : Int) ≤ 9223372036854775807 := by have := HC.out.1; omega
  obtain ⟨i0, hi0, hz0, hz1, hz2⟩ := info_parts intInfo
  have HZ := Lib.hid (And.intro hi0 (And.intro hz0 (And.intro hz1 hz2)))
  clear r0 hcs hi0 hz0 hz1 hz2
  by_cases hbig : 1048576 < (len : Int)
  · go_enter Try.func3, Try.ntmps3
    go_wp2
    go_ret
    exact ⟨rfl, Below.refl _ _⟩
  have HLL := Lib.hid (show len ≤ 1048576 by omega)
  go_enter Try.func3, Try.ntmps3
  go_wp2_with (go_at_call 13; go_in)
  clear hbig
  go_wp2_with fail
  (with_reducible refine (draw.drawCoded _ a len cap HC.out).mono ?_)
  rintro e w1 ⟨A, n, c, zs, p1, p2, rfl, hn, hp1, hp2, hi, ho, hb⟩
  have B1 := Lib.hid hb
  have O1 := Lib.hid ho
  have I1 := Lib.hid hi
  have hmk := fun W => run_make1 (P := Try.prog) 24 3 i0 _ Try.underlying24 HZ.out.1 HZ.out.2.1 HZ.out.2.2.1 n (by rw [HZ.out.2.2.2]; omega) (by omega) W
  clear ho hb HC hi hp1 hp2
  go_wp2_with fail
  clear hmk
  go_loopw [7] (fun i wr => ∃ k : Nat, i = .int .i64 k ∧ k ≤ n ∧ Others w1 wr n k) (fun i _ => n - (intOf i).toNat)
  case atStart => exact ⟨0, rfl, by omega, [], rfl, rfl, Part.start _ _ _ _ _ _⟩
  case round =>
    obtain ⟨k, rfl, hk, hp⟩ := hrel
    have HP := Lib.hid hp
    clear hp
    by_cases hlt : k < n
    · have hlt2 : (k : Int) < n := by omega
      obtain ⟨v, hv⟩ := HP.out.cell hlt
      have hf := HP.out.free k
      go_wp2_with fail
      (with_reducible refine (lawAt.at_ k (by omega) (by omega) a len cap _ _ cs _ (HR.out.below (B1.out.trans (HP.out.below.mono B1.out.size))) HLL.out).mono ?_)
      rintro e w2 ⟨x, rfl, hx0, hx1, rfl⟩
      have HS := Lib.hid (HP.out.step hlt (v := x % 2) (by omega))
      clear hx1
      go_wp2_with fail
      go_roundw
      case rel => exact ⟨k + 1, by go_num, by omega, HS.out⟩
      case measure => simp [intOf]; omega
    · have hlt2 : ¬ (k : Int) < n := by omega
      obtain rfl : k = n := by omega
      obtain ⟨ys, hyl, hyi, hyp⟩ := HP.out
      have IY := Lib.hid hyi
      have LY := Lib.hid hyl
      obtain ⟨Y, m, yc, hye, hyo, hyb⟩ := hyp.done hyl (Wf.of_i64 fun z hz => by have := bm.isb_all hyi z hz; omega) (by unfold maxLen; omega)
      injection hye with hye
      injection hye with e1 e2 e3
      subst e1 e2 e3
      have B2 := Lib.hid (B1.out.trans (hyb.mono B1.out.size))
      have O2 := Lib.hid (O1.out.below hyb)
      have Y2 := Lib.hid hyo
      have LZ := Lib.hid O1.out.len
      have HL1 := Lib.hid (conv_lin I1.out IY.out (by rw [LZ.out, LY.out]))
      have HN1 := Lib.hid (conv_len_yes I1.out)
      have HN2 := Lib.hid (conv_len_yes IY.out)
      clear hyl hyi hyp hyo hyb HP B1 O1 HR HLL hlt
      go_wp2_with fail
      (with_reducible refine (implCv zs _ _ A k c _ O2.out.rd (by omega)).mono ?_)
      rintro e w3 ⟨A3, n3, c3, rfl, ho, hb⟩
      have hn3 : n3 = 2 * (k + 2) := by rw [← ho.len, HN1.out, LZ.out]
      subst hn3
      have B3 := Lib.hid (B2.out.trans (hb.mono B2.out.size))
      have O3 := Lib.hid (O2.out.below hb)
      have Y3 := Lib.hid (Y2.out.below hb)
      have P3 := Lib.hid ho
      clear ho hb B2 O2 Y2
      go_wp2_with fail
      (with_reducible refine (implCv ys _ _ _ k k _ Y3.out.rd (by omega)).mono ?_)
      rintro e w4 ⟨A4, n4, c4, rfl, ho, hb⟩
      have hn4 : n4 = 2 * (k + 2) := by rw [← ho.len, HN2.out, LY.out]
      subst hn4
      have B4 := Lib.hid (B3.out.trans (hb.mono B3.out.size))
      have O4 := Lib.hid (O3.out.below hb)
      have Y4 := Lib.hid (Y3.out.below hb)
      have P4 := Lib.hid (P3.out.below hb)
      have Q4 := Lib.hid ho
      clear ho hb B3 O3 Y3 P3
      go_wp2_with fail
      (with_reducible refine (bits.specXor zs ys _ _ _ _ A _ k c k k _ O4.out.rd Y4.out.rd (by omega)).mono ?_)
      rintro e w5 ⟨A5, n5, c5, rfl, ho, hb⟩
      have hn5 : n5 ≤ 1000 := by rw [← ho.len, bm.xorB_len, LZ.out, LY.out]; omega
      have B5 := Lib.hid (B4.out.trans (hb.mono B4.out.size))
      have P5 := Lib.hid (P4.out.below hb)
      have Q5 := Lib.hid (Q4.out.below hb)
      have X5 := Lib.hid ho
      clear ho hb B4 O4 Y4 P4 Q4
      go_wp2_with fail
      (with_reducible refine (implCv (bm.xorB zs ys) _ _ A5 n5 c5 _ X5.out.rd (by omega)).mono ?_)
      rintro e w6 ⟨A6, n6, c6, rfl, ho, hb⟩
      have B6 := Lib.hid (B5.out.trans (hb.mono B5.out.size))
      have P6 := Lib.hid (P5.out.below hb)
      have Q6 := Lib.hid (Q5.out.below hb)
      have S6 := Lib.hid ho
      clear ho hb B5 P5 Q5 X5
      go_wp2_with fail
      (with_reducible refine (implEnl k _).mono ?_)
      rw [enl_yes (show 0 ≤ (k : Int) ∧ (k : Int) ≤ 1000000000000 by omega)]
      rintro e w7 ⟨rfl, rfl⟩
      go_wp2_with fail
      (with_reducible refine (bits.specXor (conv zs) (conv ys) _ _ _ _ A3 A4 _ c3 _ c4 _ P6.out.rd Q6.out.rd (by omega)).mono ?_)
      rintro e w7 ⟨A7, n7, c7, rfl, ho, hb⟩
      rw [HL1.out] at ho
      have B7 := Lib.hid (B6.out.trans (hb.mono B6.out.size))
      have P7 := Lib.hid (P6.out.below hb)
      have S7 := Lib.hid (S6.out.below hb)
      have X7 := Lib.hid ho
      clear ho hb B6 P6 Q6 S6
      go_wp2_with fail
      (with_reducible refine (sameI_yes (conv (bm.xorB zs ys)) _ _ _ _ A7 A6 n7 c7 n6 c6 _ X7.out.rd S7.out.rd).mono ?_)
      rintro e w8 ⟨rfl, hb⟩
      have B8 := Lib.hid (B7.out.trans (hb.mono B7.out.size))
      have P8 := Lib.hid (P7.out.below hb)
      clear hb B7 P7 X7 S7
      go_wp2_with fail
      (with_reducible refine (bits.implIss (conv zs) _ _ A3 _ c3 _ P8.out.rd).mono ?_)
      rw [conv_ins]
      rintro e w9 ⟨rfl, rfl⟩
      have R9 := Lib.hid (Rd.one .i64 3 w8 1 (by decide))
      go_wp2_with fail
      (with_reducible refine (implCv [1] _ _ _ 1 1 _ R9.out (by omega)).mono ?_)
      rintro e w9 ⟨A9, n9, c9, rfl, ho, hb⟩
      have B9 := Lib.hid ((B8.out.alloc B8.out.size _).trans (hb.mono (by have := B8.out.size; simp; omega)))
      have X9 := Lib.hid ho
      clear ho hb
      go_wp2_with fail
      (with_reducible refine (bits.implWt (conv [1]) _ _ A9 n9 c9 _ X9.out.rd).mono ?_)
      rw [weight_one]
      rintro e w10 ⟨rfl, rfl⟩
      go_wp2_with fail
      go_ret
      exact ⟨rfl, B9.out⟩
end Go.Proofs.Ytnffklompocflaa.convLaw
