/- The specification's table of costs is built. Condition: at most 1000 bits. -/
import Derived.Test.YtgdmfpahaccamaaCst
namespace Go.Proofs.Ytgdmfpahaccamaa.vts
open Go.RowKit sl harn bm rng cvm cvs vit

set_option maxRecDepth 100000 in
set_option maxHeartbeats 8000000 in
theorem costs7 (zs : List Int) (n : Nat) (hn : n ≤ 1000) (lo hi : Nat) (A : Option Addr) (len cap : Nat) (hlen : len = 2 * (n + 2)) (w : World) (h : Rd .i64 w lo hi A len cap zs) :
    Calls Try.prog 52 #[.slice A len cap, .int .i64 n] w fun e w' => ∃ v, e = .returned v ∧ Cst zs n w.heap.size w'.heap.size w' v (n + 2) ∧ Below w.heap.size w w' := by
  have HR := Lib.hid h
  have hb := h.cap_
  have HNM := Lib.hid hlen
  clear h hlen
  go_enter Try.func52, Try.ntmps52
  go_wp2_with fail
  go_loopw [5, 6] (fun v i wr => ∃ k : Nat, i = .int .i64 k ∧ k ≤ n + 2 ∧ Cst zs n w.heap.size wr.heap.size wr v k ∧ Below w.heap.size w wr) (fun _ i _ => n + 2 - (intOf i).toNat)
  case atStart => exact ⟨0, rfl, by omega, by have := (Cst.start zs n w).wide; exact this, ((Below.refl _ _).alloc (Nat.le_refl _) _).alloc (by simp) _⟩
  case round =>
    obtain ⟨w1, rfl⟩ : ∃ w1, w1 = wr := ⟨wr, rfl⟩
    obtain ⟨k, rfl, hk, hC, hB⟩ := hrel
    obtain ⟨g, cp, rfl⟩ := hC.form
    have CK := Lib.hid hC
    have BK := Lib.hid hB
    clear hC hB
    by_cases hlt : k < n + 2
    · have hlt2 : (k : Int) < (n : Int) + 2 := by omega
      have R0 := Lib.hid ((Row4.made w1 (-1) (-1) (-1) (-1)).congr (g := nx zs n k 0 0) fun t ht => by rw [nx_start zs n k ht]; split <;> (try split) <;> (try split) <;> rfl)
      have B0 := Lib.hid ((Below.refl w1.heap.size w1).alloc (Nat.le_refl _) (.cells #[.int .i64 (-1), .int .i64 (-1), .int .i64 (-1), .int .i64 (-1)] 3))
      go_wp2_with fail
      go_loopw [8] (fun i w2 => ∃ s : Nat, i = .int .i64 s ∧ s ≤ 4 ∧ Row4 w2 w1.heap.size (nx zs n k s 0) ∧ Below w1.heap.size w1 w2) (fun i _ => 4 - (intOf i).toNat)
      case atStart => exact ⟨0, rfl, by omega, R0.out, B0.out⟩
      case round =>
        clear R0 B0
        obtain ⟨w2, rfl⟩ : ∃ w2, w2 = wr := ⟨wr, rfl⟩
        obtain ⟨s, rfl, hs, hR, hB⟩ := hrel
        have RS := Lib.hid hR
        have BS := Lib.hid hB
        clear hR hB
        by_cases hls : s < 4
        · have hls2 : (s : Int) < 4 := by omega
          go_wp2_with fail
          go_loopw [9] (fun i w3 => ∃ b : Int, i = .int .i64 b ∧ (0 ≤ b ∧ b ≤ 2) ∧ Row4 w3 w1.heap.size (nx zs n k s b) ∧ Below w1.heap.size w1 w3) (fun i _ => 2 - (intOf i).toNat)
          case atStart => exact ⟨0, rfl, by omega, RS.out, BS.out⟩
          case round =>
            clear RS BS
            obtain ⟨w3, rfl⟩ : ∃ w3, w3 = wr := ⟨wr, rfl⟩
            obtain ⟨b, rfl, hb2, hR, hB⟩ := hrel
            have RB := Lib.hid hR
            have BB := Lib.hid hB
            clear hR hB
            by_cases hlb : b < 2
            · obtain ⟨bk, hck, hrk, hbk⟩ := (CK.out.below BB.out (Nat.le_refl _)).at_ (Nat.le_refl k)
              have hcs := hrk.cell hls
              have hci := scost_in zs n k s
              obtain ⟨c, hc⟩ : ∃ c, scost zs n k s = c := ⟨_, rfl⟩
              rw [hc] at hcs hci
              have HC := Lib.hid hc
              have hk1 : (k : Int) < (k : Int) + 1 := by omega
              clear hc hrk hbk
              by_cases hneg : c < 0
              · have RN := Lib.hid (RB.out.congr (g := nx zs n k s (b + 1)) fun t ht => nx_none zs n k ht (by rw [HC.out]; exact hneg))
                clear RB
                go_wp2_with fail
                go_roundw
                case rel => exact ⟨b + 1, by go_num, by omega, RN.out, BB.out⟩
                case measure => simp [intOf]; omega
              · by_cases htl : b = 1 ∧ n ≤ k
                · obtain ⟨rfl, hnk⟩ := htl
                  have hnk2 : (n : Int) ≤ k := by omega
                  have RN := Lib.hid (RB.out.congr (g := nx zs n k s 2) fun t ht => nx_tail zs n k hnk)
                  clear RB
                  go_wp2_with fail
                  go_roundw
                  case rel => exact ⟨2, by go_num, by omega, RN.out, BB.out⟩
                  case measure => simp [intOf]
                · have hg : (b == 1) = false ∨ (b == 1) = true ∧ (k : Int) < n := by
                    by_cases g : b = 1
                    · exact Or.inr ⟨by simpa using g, by have : ¬ n ≤ k := fun h => htl ⟨g, h⟩; omega⟩
                    · exact Or.inl (by simpa using g)
                  have hf : b = 0 ∨ k < n := by
                    rcases hg with g | ⟨g, h⟩
                    · left
                      have : ¬ b = 1 := by simpa using g
                      omega
                    · right; omega
                  have SB := Lib.hid (show Sb s b from ⟨by omega, by omega⟩)
                  obtain ⟨r, hr⟩ : ∃ r : Nat, 2 * k = r := ⟨_, rfl⟩
                  obtain ⟨r1, hr1⟩ : ∃ r1 : Nat, r + 1 = r1 := ⟨_, rfl⟩
                  obtain ⟨ab, off, rfl, _, hab, hx0⟩ := (HR.out.below ((BK.out.trans (BB.out.mono BK.out.size)))).at_ (i := r) (by rw [HNM.out]; omega)
                  obtain ⟨ab', off', e, _, _, hy0⟩ := (HR.out.below ((BK.out.trans (BB.out.mono BK.out.size)))).at_ (i := r1) (by rw [HNM.out]; omega)
                  injection e with e; injection e with e1 e2 e3
                  subst e1 e2
                  obtain ⟨x, hx⟩ : ∃ x, zs.getD r 0 = x := ⟨_, rfl⟩
                  obtain ⟨y, hy⟩ : ∃ y, zs.getD r1 0 = y := ⟨_, rfl⟩
                  rw [hx] at hx0
                  rw [hy] at hy0
                  have HX := Lib.hid (show zs.getD (2 * k) 0 = x by rw [hr]; exact hx)
                  have HY := Lib.hid (show zs.getD (2 * k + 1) 0 = y by rw [hr, hr1]; exact hy)
                  have hi1 : (r : Int) < len := by rw [HNM.out]; omega
                  have hi2 : (r1 : Int) < len := by rw [HNM.out]; omega
                  have w1' : IntKind.i64.wrap (r : Int) = r := IntWalk.i64_in _ (by omega)
                  have w2' : IntKind.i64.wrap (r1 : Int) = r1 := IntWalk.i64_in _ (by omega)
                  have w3' : 2 * (k : Int) = r := by omega
                  have w4' : (r : Int) + 1 = r1 := by omega
                  have hq := bd_in s b x y
                  obtain ⟨q, hq'⟩ : ∃ q, bd s b x y = q := ⟨_, rfl⟩
                  rw [hq'] at hq
                  have HQB := Lib.hid (show ∀ (W : World) (m : Nat), Calls Try.prog 23 #[.int .i64 s, .int .i64 b, .int .i64 x, .int .i64 y] (W.drewN m) fun e w' => e = .returned (.int .i64 q) ∧ w' = W.drewN m from fun W m => (specBd s b x y _).mono fun e w' ⟨h1, h2⟩ => ⟨by rw [h1, hq'], h2.symm⟩)
                  obtain ⟨d, hd⟩ : ∃ d, c + q = d := ⟨_, rfl⟩
                  have w5' : IntKind.i64.wrap d = d := IntWalk.i64_in _ (by omega)
                  have w6' : wrap64 d = d := IntWalk.wrap64_in _ (by omega)
                  have hdb : 0 ≤ d ∧ d ≤ 5000 := by omega
                  obtain ⟨t, ht⟩ : ∃ t : Nat, nst s b = t := ⟨(nst s b).toNat, by have := nst_in s b; omega⟩
                  have ht4 : t < 4 := by have := nst_in s b; omega
                  have ht5 : (t : Int) < 4 := by omega
                  have HN := Lib.hid (show nxt s b = t by rw [nxt_yes SB.out, ht])
                  have hpb := nx_in zs n k s b t
                  have HBT := Lib.hid (nx_better zs n k (d := d) SB.out hf (by rw [HC.out]; omega) (by rw [HC.out, HX.out, HY.out, hq']; exact hd))
                  have HWR := Lib.hid (nx_worse zs n k (d := d) SB.out hf (by rw [HC.out]; omega) (by rw [HC.out, HX.out, HY.out, hq']; exact hd))
                  rw [ht] at HBT HWR
                  obtain ⟨P, hP⟩ : ∃ P, nx zs n k s b t = P := ⟨_, rfl⟩
                  rw [hP] at hpb HBT HWR
                  have hfr : ∀ m, (w3.drewN m).frozen? ⟨w1.heap.size, t, none⟩ = false := fun m => RB.out.free t
                  have hcP := RB.out.cell ht4
                  rw [hP] at hcP
                  have HF := Lib.hid hfr
                  clear hx hy e3 hab hr hr1 hq' ht hP hf htl hfr
                  rcases hg with hb1 | ⟨hb1, hkn⟩
                  all_goals
                   (go_wp2_with fail
                    go_quiet ((go_at_call 23; exact Calls.quiet_of_same (HQB.out _ _)))
                    go_wp2_with fail
                    (with_reducible refine (specNext s b _).mono ?_)
                    rw [HN.out]
                    rintro e w7 ⟨rfl, rfl⟩
                    have hfr := HF.out nq
                    have BN := Lib.hid (show Below w1.heap.size w1 ((w3.drewN nq).setCell ⟨w1.heap.size, t, none⟩ (.int .i64 d)) from Below.setCell (w := w3.drewN nq) (p := ⟨w1.heap.size, t, none⟩) ⟨BB.out.os, BB.out.tape, BB.out.output, BB.out.size, BB.out.block⟩ (Nat.le_refl _) (.int .i64 d))
                    have BM := Lib.hid (show Below w1.heap.size w1 (w3.drewN nq) from ⟨BB.out.os, BB.out.tape, BB.out.output, BB.out.size, BB.out.block⟩)
                    have RD := Lib.hid (show Row4 (w3.drewN nq) w1.heap.size (nx zs n k s b) from RB.out)
                    clear HF RB BB hck hcs hx0 hy0 w1' w2' w3' w4' w5' w6' hd hi1 hi2
                    by_cases hP0 : P < 0
                    · have RN := Lib.hid ((RD.out.set ht4 d).congr (g := nx zs n k s (b + 1)) fun t ht => HBT.out (Or.inl hP0) ht)
                      clear RD
                      go_wp2_with fail
                      go_roundw
                      case rel => exact ⟨b + 1, by go_num, by omega, RN.out, BN.out⟩
                      case measure => simp [intOf]; omega
                    · by_cases hdP : d < P
                      · have RN := Lib.hid ((RD.out.set ht4 d).congr (g := nx zs n k s (b + 1)) fun t ht => HBT.out (Or.inr hdP) ht)
                        clear RD
                        go_wp2_with fail
                        go_roundw
                        case rel => exact ⟨b + 1, by go_num, by omega, RN.out, BN.out⟩
                        case measure => simp [intOf]; omega
                      · have RN := Lib.hid (RD.out.congr (g := nx zs n k s (b + 1)) fun t ht => HWR.out (by intro g; rcases g with g | g; exact hP0 g; exact hdP g) ht)
                        clear RD
                        go_wp2_with fail
                        go_roundw
                        case rel => exact ⟨b + 1, by go_num, by omega, RN.out, BM.out⟩
                        case measure => simp [intOf]; omega)
            · obtain rfl : b = 2 := by omega
              have RN := Lib.hid (RB.out.congr (g := nx zs n k ((s + 1 : Nat) : Int) 0) fun t ht => nx_next zs n k s t)
              clear RB
              go_wp2_with fail
              go_roundw
              case rel => exact ⟨s + 1, by go_num, by omega, RN.out, BB.out⟩
              case measure => simp [intOf]; omega
        · have hls2 : ¬ (s : Int) < 4 := by omega
          obtain rfl : s = 4 := by omega
          have RE := Lib.hid (RS.out.congr (g := scost zs n (k + 1)) fun t _ => nx_end zs n k t)
          clear RS
          go_wp2_with (at_builtin; refine wpList_push _ rfl _ _ rfl rfl rfl ((CK.out.below BS.out (Nat.le_refl _)).below ((Below.refl _ _).alloc (Nat.le_refl _) _) BS.out.size) (by omega) (cell_new _ _ _) (RE.out.same (Below.heap_alloc _ _ _ RE.out.lt)) (by have := BK.out.size; have := BS.out.size; simp; omega) ?_; intro v5 w5 hC5 hB5; have C5 := Lib.hid hC5; have B5 := Lib.hid ((BK.out.trans (BS.out.mono BK.out.size)).alloc (Nat.le_trans BK.out.size BS.out.size) _ |>.trans hB5); clear hC5 hB5)
          go_wp2_with fail
          go_roundw
          case rel => exact ⟨k + 1, by go_num, by omega, C5.out, B5.out⟩
          case measure => simp [intOf]; omega
    · have hlt2 : ¬ (k : Int) < (n : Int) + 2 := by omega
      obtain rfl : k = n + 2 := by omega
      go_wp2_with fail
      go_ret
      exact ⟨_, rfl, CK.out, BK.out⟩
end Go.Proofs.Ytgdmfpahaccamaa.vts
