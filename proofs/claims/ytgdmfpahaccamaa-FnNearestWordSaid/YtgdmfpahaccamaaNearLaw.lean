/- The law function of the nearest word (FnNearestWord) returns true and leaves what was there. Condition: the argument is a slice of bytes that came in. -/
import Derived.Test.YtgdmfpahaccamaaDraw8
import Derived.Test.YtgdmfpahaccamaaEnd7
import Derived.Test.YtgdmfpahaccamaaAt
namespace Go.Proofs.Ytgdmfpahaccamaa.draw
open Go.RowKit sl harn
theorem drawVit (w : World) (a : Option Addr) (len cap : Nat) (hc : Code w w.heap.size a len) :
    Calls Try.prog 18 #[.slice a len cap] w (fun e w' => ∃ A n c zs, e = .returned (.slice A n c) ∧ n ≤ 3000 ∧ Ow 3 .i64 w' w.heap.size w'.heap.size A n c zs ∧ Below w.heap.size w w') := by
  have C0 := Lib.hid hc
  clear hc
  go_enter Try.func18, Try.ntmps18
  go_wp2_with fail
  (with_reducible refine (new _ a len cap C0.out).mono ?_)
  rintro e w1 ⟨rfl, hk, hs, hc⟩
  have K1 := Lib.hid hk
  have C1 := Lib.hid hc
  have S1 := Lib.hid hs
  clear hk hc hs
  go_wp2_with fail
  (with_reducible refine (syms6 _ w.heap.size a len cap C1.out).mono ?_)
  rintro e w4 ⟨A, n, c, zs, rfl, hn, ho, hi, hk, hc⟩
  have K4 := Lib.hid (keep_below K1.out hk)
  have O4 := Lib.hid (ho.down (lo2 := w.heap.size) (Nat.le_of_lt S1.out))
  clear hk hc ho hi
  go_wp2_with fail
  go_ret
  exact ⟨_, _, _, zs, rfl, by omega, O4.out, K4.out⟩
end Go.Proofs.Ytgdmfpahaccamaa.draw
namespace Go.Proofs.Ytgdmfpahaccamaa.nearLaw
open Go.RowKit sl harn bm cvm cvs vit vts
set_option linter.unusedVariables false

/-- A row of n cells whose first k hold bits. -/
def Br (bo : Nat) (w : World) (n k : Nat) : Prop := ∃ cs, w.heap[bo]? = some (.cells cs 3 (0, 0)) ∧ cs.size = n ∧ ∀ j, j < k → ∃ v : Int, cs[j]? = some (.int .i64 v) ∧ 0 ≤ v ∧ v ≤ 1
section
variable {bo n k : Nat} {w w' : World}
theorem Br.start (w : World) (n : Nat) (z : Array Value) : Br w.heap.size (w.alloc (.cells (madeCells z n) 3)) n 0 := ⟨_, heap_alloc_new w _, size_madeCells z n, fun j h => absurd h (by omega)⟩
theorem Br.cell (h : Br bo w n k) {i : Nat} (hi : i < n) : ∃ v, w.cell? ⟨bo, i, none⟩ = some v := by
  obtain ⟨cs, h1, h2, _⟩ := h
  exact ⟨cs[i]'(by omega), by simp [World.cell?, h1]⟩
theorem Br.bit (h : Br bo w n k) {i : Nat} (hi : i < k) : ∃ v : Int, w.cell? ⟨bo, i, none⟩ = some (.int .i64 v) ∧ 0 ≤ v ∧ v ≤ 1 := by
  obtain ⟨cs, h1, h2, h3⟩ := h
  obtain ⟨v, g1, g2⟩ := h3 i hi
  exact ⟨v, by simp [World.cell?, h1, g1], g2⟩
theorem Br.free (h : Br bo w n k) (i : Nat) : w.frozen? ⟨bo, i, none⟩ = false := by
  obtain ⟨cs, h1, _⟩ := h
  simp [World.frozen?, h1]
theorem Br.put (h : Br bo w n k) {i : Nat} (hi : i < n) {v : Int} (hv : 0 ≤ v ∧ v ≤ 1) : Br bo (w.setCell ⟨bo, i, none⟩ (.int .i64 v)) n k := by
  obtain ⟨cs, h1, h2, h3⟩ := h
  refine ⟨cs.setIfInBounds i (.int .i64 v), heap_setCell_same w bo i cs _ _ h1, by simpa using h2, fun j hj => ?_⟩
  by_cases hij : j = i
  · subst hij
    exact ⟨v, by rw [Array.getElem?_setIfInBounds_self_of_lt (by omega)], hv⟩
  · rw [Array.getElem?_setIfInBounds_ne (by omega)]; exact h3 j hj
theorem Br.push (h : Br bo w n k) (hi : k < n) {v : Int} (hv : 0 ≤ v ∧ v ≤ 1) : Br bo (w.setCell ⟨bo, k, none⟩ (.int .i64 v)) n (k + 1) := by
  obtain ⟨cs, h1, h2, h3⟩ := h
  refine ⟨cs.setIfInBounds k (.int .i64 v), heap_setCell_same w bo k cs _ _ h1, by simpa using h2, fun j hj => ?_⟩
  by_cases hij : j = k
  · subst hij
    exact ⟨v, by rw [Array.getElem?_setIfInBounds_self_of_lt (by omega)], hv⟩
  · rw [Array.getElem?_setIfInBounds_ne (by omega)]; exact h3 j (by omega)
def numOf : Option Value → Int
  | some (.int _ v) => v
  | _ => 0
theorem Br.done (h : Br bo w n n) (hm : n ≤ maxLen) : ∃ ys, ys.length = n ∧ isb ys = true ∧ Ow 3 .i64 w bo w.heap.size (some ⟨bo, 0, none⟩) n n ys := by
  obtain ⟨cs, h1, h2, h3⟩ := h
  let ys : List Int := (List.range n).map fun j => numOf cs[j]?
  have hl : ys.length = n := by simp [ys]
  have hat : ∀ j, j < n → cs[j]? = some (.int .i64 (ys.getD j 0)) ∧ 0 ≤ ys.getD j 0 ∧ ys.getD j 0 ≤ 1 := fun j hj => by
    obtain ⟨v, g1, g2⟩ := h3 j hj
    have e : ys.getD j 0 = v := by
      rw [List.getD_eq_getElem?_getD, List.getElem?_eq_getElem (by omega)]
      simp [ys, g1, numOf]
    rw [e]; exact ⟨g1, g2⟩
  have hi : isb ys = true := isb_of_at fun i hi => (hat i (by omega)).2
  have hb : Bk 3 .i64 bo w n 0 ys := ⟨cs, h1, h2, fun i _ hi => (hat i hi).1⟩
  exact ⟨ys, hl, hi, hb.done hl (fun _ _ => rfl) (Wf.of_i64 fun z hz => by have := isb_all hi z hz; omega) hm (Nat.le_refl _)⟩
end
set_option maxRecDepth 100000 in
set_option maxHeartbeats 8000000 in
theorem walk (a : Option Addr) (len cap : Nat) (z0 : List Int) (w : World) (r0 : kit.IsRow .u8 w a len cap z0) :
    Calls Try.prog 4 #[.slice a len cap] w fun e w' => e = .returned (.bool true) ∧ Below w.heap.size w w' := by
  have HC := Lib.hid (draw.code_of_row r0)
  obtain ⟨cs, hcs⟩ := Rd.of_row r0
  have HR := Lib.hid hcs
  have hlen : (len : Int) ≤ 9223372036854775807 := by have := HC.out.1; omega
  obtain ⟨i0, hi0, hz0, hz1, hz2⟩ := info_parts intInfo
  have HI0 := Lib.hid (And.intro hi0 (And.intro hz0 (And.intro hz1 hz2)))
  clear r0 hcs hi0 hz0 hz1 hz2
  by_cases hbig : 1048576 < (len : Int)
  · go_enter Try.func4, Try.ntmps4
    go_wp2
    go_ret
    exact ⟨rfl, Below.refl _ _⟩
  have HLL := Lib.hid (show len ≤ 1048576 by omega)
  go_enter Try.func4, Try.ntmps4
  go_wp2_with (go_at_call 11; go_in)
  clear hbig
  go_wp2_with fail
  (with_reducible refine (draw.drawVit _ a len cap HC.out).mono ?_)
  rintro e w1 ⟨A, n, c, zs, rfl, hn, ho, hb⟩
  have B1 := Lib.hid hb
  have O1 := Lib.hid ho
  have LZ := Lib.hid ho.len
  have HW := Lib.hid (show (Lit.int .i64 (n : Int)).wf = true from WalkArith.wf_i64 (by omega))
  clear ho hb HC
  obtain ⟨xs, d, ht⟩ : ∃ xs d, vit.vit zs = (xs, d) := ⟨_, _, rfl⟩
  have HT := Lib.hid ht
  clear ht
  go_wp2_with fail
  (with_reducible refine (implVit zs _ _ A n c _ O1.out.rd).mono ?_)
  rintro e w2 hpost
  obtain ⟨X, q, cx, rfl, ho, hb⟩ := fin7.vit_parts HT.out hpost
  have B2 := Lib.hid (B1.out.trans (hb.mono B1.out.size))
  have O2 := Lib.hid (O1.out.below hb)
  have X2 := Lib.hid ho
  have LX := Lib.hid ho.len
  clear ho hb hpost
  rcases vit_cases zs with ⟨m, hm, hs⟩ | hno
  · have hm3 := (inl_nat hm).2
    have hv := HT.out
    rw [vit_yes hm hs] at hv
    have HM := Lib.hid (show inl n = m by rw [← LZ.out]; exact hm)
    have HS := Lib.hid hs
    have HPD := Lib.hid (show pd xs zs = d by injection hv with h1 h2; rw [← h1, ← h2]; exact pd_dec hm hs)
    have HBEST := Lib.hid (show ∀ ys, isb ys = true → ys.length = m → ¬ pd ys zs < d from fun ys h1 h2 => by
      have := pd_best hm hs h1 h2
      injection hv with _ h4
      omega)
    have hd0 : ¬ d < 0 := by
      have := dec_nn (zs := zs) (n := m) (inl_nat hm).1
      injection hv with _ h2
      omega
    have hq : q = m := by rw [← LX.out]; injection hv with h1 _; rw [← h1, dec_len]
    subst hq
    have IX := Lib.hid (show isb xs = true by injection hv with h1 _; rw [← h1]; exact dec_bit (inl_nat hm).1)
    clear hv hm hs
    go_wp2_with fail
    (with_reducible refine (specInl n HW.out _).mono ?_)
    rw [HM.out]
    rintro e w3 ⟨rfl, rfl⟩
    go_wp2_with fail
    (with_reducible refine (bits.specIss zs _ _ A n c _ O2.out.rd).mono ?_)
    rw [HS.out]
    rintro e w3 ⟨rfl, rfl⟩
    go_wp2_with fail
    (with_reducible refine (implPd xs zs _ _ _ _ X A q cx n c _ X2.out.rd O2.out.rd (by omega)).mono ?_)
    rw [HPD.out]
    rintro e w3 ⟨rfl, hb⟩
    have B3 := Lib.hid (B2.out.trans (hb.mono B2.out.size))
    have O3 := Lib.hid (O2.out.below hb)
    have X3 := Lib.hid (X2.out.below hb)
    have R3 := Lib.hid (HR.out.below B3.out)
    clear hb O2 X2 B2 O1 B1
    go_wp2_with fail
    go_loopw [7] (fun i wr => ∃ t : Nat, i = .int .i64 t ∧ t ≤ 8 ∧ Below w3.heap.size w3 wr) (fun i _ => 8 - (intOf i).toNat)
    case atStart => exact ⟨0, rfl, by omega, Below.refl _ _⟩
    case round =>
      obtain ⟨w4, rfl⟩ : ∃ w4, w4 = wr := ⟨wr, rfl⟩
      obtain ⟨t, rfl, ht, hb⟩ := hrel
      have B4 := Lib.hid hb
      clear hb
      by_cases hlt : t < 8
      · have hlt2 : (t : Int) < 8 := by omega
        have hmk := fun W => run_make1 (P := Try.prog) 24 3 i0 _ Try.underlying24 HI0.out.1 HI0.out.2.1 HI0.out.2.2.1 q (by rw [HI0.out.2.2.2]; omega) (by omega) W
        have P0 := Lib.hid (Br.start w4 q #[.int .i64 0])
        have Q0 := Lib.hid ((Below.refl w4.heap.size w4).alloc (Nat.le_refl _) (.cells (madeCells #[.int .i64 0] q) 3))
        obtain ⟨pr, hpr⟩ : ∃ pr : Int, (t : Int) * q = pr := ⟨_, rfl⟩
        have hpr0 : 0 ≤ pr ∧ pr ≤ 7000 := by
          have h1 : t * q ≤ 7 * 1000 := Nat.mul_le_mul (by omega) hm3
          have h2 : ((t * q : Nat) : Int) = pr := by rw [← hpr]; simp
          omega
        have wp1 : IntKind.i64.wrap pr = pr := IntWalk.i64_in _ (by omega)
        have wp2 : wrap64 pr = pr := IntWalk.wrap64_in _ (by omega)
        go_wp2_with fail
        clear hmk
        go_loopw [9] (fun i wr => ∃ k : Nat, i = .int .i64 k ∧ k ≤ q ∧ Br w4.heap.size wr q k ∧ Below w4.heap.size w4 wr) (fun i _ => q - (intOf i).toNat)
        case atStart => exact ⟨0, rfl, by omega, P0.out, Q0.out⟩
        case round =>
          clear P0 Q0
          obtain ⟨w5, rfl⟩ : ∃ w5, w5 = wr := ⟨wr, rfl⟩
          obtain ⟨k, rfl, hk, hp, hb⟩ := hrel
          have PK := Lib.hid hp
          have QK := Lib.hid hb
          clear hp hb
          have BW := Lib.hid (B4.out.trans (QK.out.mono B4.out.size))
          by_cases hkq : k < q
          · have hkq2 : (k : Int) < q := by omega
            obtain ⟨v0, hv0⟩ := PK.out.cell hkq
            have hf0 := PK.out.free k
            go_wp2_with fail
            (with_reducible refine (lawAt.at_ (pr + k) (by omega) (by omega) a len cap _ _ cs _ (R3.out.below BW.out) HLL.out).mono ?_)
            rintro e w6 ⟨x, rfl, hx0, hx1, rfl⟩
            have hx2 : 0 ≤ x % 2 ∧ x % 2 ≤ 1 := by omega
            have S1 := Lib.hid (PK.out.push hkq hx2)
            have T1 := Lib.hid (QK.out.setCell (p := ⟨w4.heap.size, k, none⟩) (Nat.le_refl _) (.int .i64 (x % 2)))
            clear hx2
            by_cases ht4 : t < 4
            · have ht5 : (t : Int) < 4 := by omega
              obtain ⟨bx, off, rfl, _, hbx, hcx⟩ := (X3.out.rd.below BW.out).at_ hkq
              have hne : ¬ bx = w4.heap.size := by have := X3.out.hi_; have := B4.out.size; omega
              have hne2 : ¬ w4.heap.size = bx := fun h => hne h.symm
              obtain ⟨y, hy⟩ : ∃ y, xs.getD k 0 = y := ⟨_, rfl⟩
              have hy01 := isb_getD IX.out k
              rw [hy] at hcx hy01
              have S2 := Lib.hid (S1.out.put hkq hy01)
              have T2 := Lib.hid (T1.out.setCell (p := ⟨w4.heap.size, k, none⟩) (Nat.le_refl _) (.int .i64 y))
              clear hy hx1
              go_wp2_with fail
              go_roundw
              case rel => exact ⟨k + 1, by go_num, by omega, S2.out, T2.out⟩
              case measure => simp [intOf]; omega
            · have ht5 : ¬ (t : Int) < 4 := by omega
              clear hx1
              go_wp2_with fail
              go_roundw
              case rel => exact ⟨k + 1, by go_num, by omega, S1.out, T1.out⟩
              case measure => simp [intOf]; omega
          · have hkq2 : ¬ (k : Int) < q := by omega
            obtain rfl : k = q := by omega
            by_cases hflip : t < 4 ∧ 0 < k
            · obtain ⟨ht4, hk0⟩ := hflip
              have ht5 : (t : Int) < 4 := by omega
              have hk1 : 0 < (k : Int) := by omega
              go_wp2_with fail
              (with_reducible refine (lawAt.at_ t (by omega) (by omega) a len cap _ _ cs _ (R3.out.below BW.out) HLL.out).mono ?_)
              rintro e w6 ⟨x, rfl, hx0, hx1, rfl⟩
              obtain ⟨r, hr⟩ : ∃ r : Nat, x % (k : Int) = r := ⟨(x % (k : Int)).toNat, by have := Int.emod_nonneg x (show (k : Int) ≠ 0 by omega); omega⟩
              have hrk : r < k := by have := Int.emod_lt_of_pos x hk1; omega
              have hr2 : x.tmod (k : Int) = r := by rw [Int.tmod_eq_emod_of_nonneg hx0]; exact hr
              have hrk2 : (r : Int) < k := by omega
              obtain ⟨v, hv, hv0, hv1⟩ := PK.out.bit hrk
              have hf0 := PK.out.free r
              obtain ⟨u, hu⟩ : ∃ u, 1 - v = u := ⟨_, rfl⟩
              have wu : wrap64 u = u := IntWalk.wrap64_in _ (by omega)
              have wu2 : IntKind.i64.wrap u = u := IntWalk.i64_in _ (by omega)
              have S1 := Lib.hid (PK.out.put hrk (v := u) (by omega))
              have T1 := Lib.hid (QK.out.setCell (p := ⟨w4.heap.size, r, none⟩) (Nat.le_refl _) (.int .i64 u))
              obtain ⟨ys, hyl, hyi, hyo⟩ := S1.out.done (by unfold maxLen; omega)
              have OY := Lib.hid hyo
              have BV := Lib.hid (B4.out.trans (T1.out.mono B4.out.size))
              have HB1 := Lib.hid (HBEST.out ys hyi hyl)
              clear hyl hyi hyo hx1 hkq
              go_wp2_with fail
              (with_reducible refine (implPd ys zs _ _ _ _ _ A k k n c _ OY.out.rd (O3.out.below BV.out).rd (by omega)).mono ?_)
              rintro e w7 ⟨rfl, hb7⟩
              have B7 := Lib.hid (BV.out.trans (hb7.mono BV.out.size))
              obtain ⟨P, hP⟩ : ∃ P, pd ys zs = P := ⟨_, rfl⟩
              rw [hP]
              have hPd : ¬ P < d := by rw [← hP]; have := HB1.out; omega
              clear hP hb7
              go_wp2_with fail
              go_roundw
              case rel => exact ⟨t + 1, by go_num, by omega, B7.out⟩
              case measure => simp [intOf]; omega
            · obtain ⟨ys, hyl, hyi, hyo⟩ := PK.out.done (by unfold maxLen; omega)
              have OY := Lib.hid hyo
              have HB1 := Lib.hid (HBEST.out ys hyi hyl)
              clear hyl hyi hyo hkq
              have hsplit : (¬ (t : Int) < 4) ∨ ((t : Int) < 4 ∧ ¬ 0 < (k : Int)) := by omega
              clear hflip
              rcases hsplit with h1 | ⟨h1, h2⟩
              all_goals
               (go_wp2_with fail
                (with_reducible refine (implPd ys zs _ _ _ _ _ A k k n c _ OY.out.rd (O3.out.below BW.out).rd (by omega)).mono ?_)
                rintro e w7 ⟨rfl, hb7⟩
                have B7 := Lib.hid (BW.out.trans (hb7.mono BW.out.size))
                obtain ⟨P, hP⟩ : ∃ P, pd ys zs = P := ⟨_, rfl⟩
                rw [hP]
                have hPd : ¬ P < d := by rw [← hP]; have := HB1.out; omega
                clear hP hb7
                go_wp2_with fail
                go_roundw
                case rel => exact ⟨t + 1, by go_num, by omega, B7.out⟩
                case measure => simp [intOf]; omega)
      · have hlt2 : ¬ (t : Int) < 8 := by omega
        go_wp2_with fail
        go_ret
        exact ⟨rfl, B3.out.trans (B4.out.mono B3.out.size)⟩
  · have hv := HT.out
    rw [vit_no hno] at hv
    injection hv with hv1 hv2
    subst hv1 hv2
    obtain rfl : q = 0 := by rw [← LX.out]; rfl
    clear X2
    by_cases h0 : inl zs.length < 0
    · have HI := Lib.hid (show inl n = -1 by rw [← LZ.out]; have := inl_in zs.length; omega)
      clear hno h0
      go_wp2_with fail
      (with_reducible refine (specInl n HW.out _).mono ?_)
      rw [HI.out]
      rintro e w3 ⟨rfl, rfl⟩
      go_wp2_with fail
      go_ret
      exact ⟨rfl, B2.out⟩
    · have hs : inr zs 0 2 = false := by
        cases h : inr zs 0 2
        · rfl
        · exact absurd ⟨by omega, h⟩ hno
      have HS := Lib.hid hs
      obtain ⟨m, hm⟩ := Int.eq_ofNat_of_zero_le (show 0 ≤ inl zs.length by omega)
      have HI := Lib.hid (show inl n = m by rw [← LZ.out]; exact hm)
      clear hno h0 hs hm
      go_wp2_with fail
      (with_reducible refine (specInl n HW.out _).mono ?_)
      rw [HI.out]
      rintro e w3 ⟨rfl, rfl⟩
      go_wp2_with fail
      (with_reducible refine (bits.specIss zs _ _ A n c _ O2.out.rd).mono ?_)
      rw [HS.out]
      rintro e w3 ⟨rfl, rfl⟩
      go_wp2_with fail
      go_ret
      exact ⟨rfl, B2.out⟩
end Go.Proofs.Ytgdmfpahaccamaa.nearLaw
