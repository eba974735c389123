/- DelimiterBytes of both sides. Condition: none. -/
import Derived.Test.YthgbmcdfbinpkaaAg1
import Derived.Test.YthgbmcdfbinpkaaCrc1
import Derived.Test.YthgbmcdfbinpkaaStw
import Derived.Deep.Cut
namespace Go.Proofs.Ythgbmcdfbinpkaa.ag
open Go.RowKit sl harn rng bx crcm crcs
set_option linter.unusedVariables false
set_option linter.unusedSimpArgs false

theorem two_byt {n : Int} (h : 0 ≤ n ∧ n ≤ 255) : Byt [n, 0] := by
  intro z hz
  rcases List.mem_cons.1 hz with rfl | hz
  · exact h
  · have : z = 0 := by simpa using hz
    omega
theorem two_rd (w : World) (x y : Int) (hx : (Lit.int .u8 x).wf = true) (hy : (Lit.int .u8 y).wf = true) : Rd .u8 (w.alloc (.cells #[.int .u8 x, .int .u8 y] 5)) w.heap.size (w.heap.size + 1) (some ⟨w.heap.size, 0, none⟩) 2 2 [x, y] :=
  ⟨rfl, by omega, by unfold maxLen; omega, by simp, fun z hz => by
    rcases List.mem_cons.1 hz with rfl | hz
    · exact hx
    · have : z = y := by simpa using hz
      rw [this]; exact hy, fun _ => ⟨_, 0, rfl, Nat.le_refl _, by omega, fun i hi => by
    have : i = 0 ∨ i = 1 := by omega
    rcases this with rfl | rfl <;> simp⟩⟩
theorem two_ow (w : World) (x y : Int) (hx : (Lit.int .u8 x).wf = true) (hy : (Lit.int .u8 y).wf = true) : Ow 5 .u8 (w.alloc (.cells #[.int .u8 x, .int .u8 y] 5)) w.heap.size (w.alloc (.cells #[.int .u8 x, .int .u8 y] 5)).heap.size (some ⟨w.heap.size, 0, none⟩) 2 2 [x, y] :=
  Ow.lit w _ _ rfl (fun z hz => by
    rcases List.mem_cons.1 hz with rfl | hz
    · exact hx
    · have : z = y := by simpa using hz
      rw [this]; exact hy) (by unfold maxLen; simp) rfl
theorem dl_snoc {n : Int} (h : 0 ≤ n ∧ n ≤ 200) : (dlm n).take 1 = [n] ∧ (dlm n).take 2 = [n] ++ [0] ∧ (dlm n).take 3 = ([n] ++ [0]) ++ [((crc [n, 0] : Nat) : Int) % 256] ∧ dlm n = (([n] ++ [0]) ++ [((crc [n, 0] : Nat) : Int) % 256]) ++ [78] := by
  rw [dlm_yes h]; exact ⟨rfl, rfl, rfl, rfl⟩
set_option maxRecDepth 100000 in
set_option maxHeartbeats 4000000 in
theorem lowM (n : Int) (h : 0 ≤ n ∧ n ≤ 200) (w : World) :
    Calls Try.prog 63 #[.int .i64 n] w fun e w' => e = .returned (.int .u8 n) ∧ w = w' := by
  obtain ⟨h0, h1⟩ := h
  have hq : n % 256 = n := by omega
  go_enter Try.func63, Try.ntmps63
  go_wp2_with fail
  go_ret
  exact ⟨rfl, rfl⟩
set_option maxRecDepth 100000 in
set_option maxHeartbeats 4000000 in
theorem highM (n : Int) (h : 0 ≤ n ∧ n ≤ 200) (w : World) :
    Calls Try.prog 64 #[.int .i64 n] w fun e w' => e = .returned (.int .u8 0) ∧ w = w' := by
  obtain ⟨h0, h1⟩ := h
  have hq : n / 256 = 0 := by omega
  go_enter Try.func64, Try.ntmps64
  go_wp2_with fail
  go_ret
  exact ⟨rfl, rfl⟩
set_option maxRecDepth 100000 in
set_option maxHeartbeats 4000000 in
theorem markM (n : Int) (h : 0 ≤ n ∧ n ≤ 200) (w : World) :
    Calls Try.prog 66 #[.int .i64 n] w fun e w' => e = .returned (.int .u8 78) ∧ w = w' := by
  clear h
  go_enter Try.func66, Try.ntmps66
  go_wp2_with fail
  go_ret
  exact ⟨rfl, rfl⟩
set_option maxRecDepth 100000 in
set_option maxHeartbeats 4000000 in
theorem checkM (n : Int) (h : 0 ≤ n ∧ n ≤ 200) (w : World) :
    Calls Try.prog 65 #[.int .i64 n] w fun e w' => e = .returned (.int .u8 (((crc [n, 0] : Nat) : Int) % 256)) ∧ Below w.heap.size w w' := by
  have H := Lib.hid h
  have HN := Lib.hid (show (Lit.int .u8 n).wf = true from WalkArith.wf_u8 (by omega))
  have H0 := Lib.hid (show (Lit.int .u8 0).wf = true from WalkArith.wf_u8 (by omega))
  obtain ⟨c, hc⟩ : ∃ c, crc [n, 0] = c := ⟨_, rfl⟩
  have HC := Lib.hid hc
  have hc2 : c < 65536 := by rw [← hc]; exact crc_lt (two_byt (by omega))
  rw [hc]
  clear hc h
  go_enter Try.func65, Try.ntmps65
  go_wp2_with fail
  (with_reducible refine (lowM n H.out _).mono ?_)
  rintro e w1 ⟨rfl, rfl⟩
  go_wp2_with fail
  (with_reducible refine (highM n H.out _).mono ?_)
  rintro e w1 ⟨rfl, rfl⟩
  go_wp2_with fail
  (with_reducible refine (implCrc [n, 0] _ _ _ 2 2 _ (two_rd w n 0 HN.out H0.out)).mono ?_)
  rw [HC.out]
  rintro e w1 ⟨rfl, rfl⟩
  go_wp2_with fail
  go_ret
  exact ⟨rfl, (Below.refl _ _).alloc (Nat.le_refl _) _⟩
theorem szTT : (Try.prog.info? 55).map (·.size) = some 4 := by kernel_rfl
theorem oneTT : (#[.func (.func 63) #[] #[], .func (.func 64) #[] #[], .func (.func 65) #[] #[], .func (.func 66) #[] #[]] : Array Value).all (·.oneCell') = true := by kernel_rfl
set_option maxRecDepth 100000 in
set_option maxHeartbeats 4000000 in
theorem tableM (w : World) :
    Calls Try.prog 51 #[] w (fun e w' => e = .returned (.agg #[.func (.func 63) #[] #[], .func (.func 64) #[] #[], .func (.func 65) #[] #[], .func (.func 66) #[] #[]]) ∧ Below w.heap.size w w') := by
  go_enter Try.func51, Try.ntmps51
  go_upto_region 1 with fail
  obtain ⟨w0, hW⟩ : ∃ w0, w.alloc (.cells #[.nilFunc, .nilFunc, .nilFunc, .nilFunc] 55) = w0 := ⟨_, rfl⟩
  rw [hW]
  have B0 := Lib.hid (show Below w.heap.size w w0 by rw [← hW]; exact (Below.refl _ _).alloc (by simp <;> omega) _)
  have Z0 := Lib.hid (show Bx 55 w0 (w.heap.size) #[.nilFunc, .nilFunc, .nilFunc, .nilFunc] by
      rw [← hW]
      have hh := Bx.made 55 w #[.nilFunc, .nilFunc, .nilFunc, .nilFunc]
      exact hh)
  clear hW
  go_wp2_with (first | (refine stw.list_store rfl 55 _ _ rfl (w.heap.size) #[.func (.func 63) #[] #[], .func (.func 64) #[] #[], .func (.func 65) #[] #[], .func (.func 66) #[] #[]] rfl rfl 55 _ Z0.out rfl szTT (oneTT) ?_; intro wz1 hz))
  have B1 := Lib.hid (hz.on B0.out (by first | omega | (simp <;> omega)))
  have Z1 := Lib.hid (hz.box)
  clear hz B0 Z0
  (try simp only [Exit.inBlock, Exit.then])
  refine bodyPost_ret (v := .agg #[.func (.func 63) #[] #[], .func (.func 64) #[] #[], .func (.func 65) #[] #[], .func (.func 66) #[] #[]]) ?_ rfl ?_
  · rw [results_cell1 rfl]
    exact stw.back Z1.out Try.underlying55 rfl szTT
  · exact ⟨rfl, B1.out⟩
set_option maxRecDepth 100000 in
set_option maxHeartbeats 4000000 in
theorem implDb (n : Int) (w : World) :
    Calls Try.prog 19 #[.int .i64 n] w (SlPost 5 .u8 w (dlm n)) := by
  by_cases hr : 0 ≤ n ∧ n ≤ 200
  · obtain ⟨i0, hi0, hz0, hz1, hz2⟩ := info_parts u8Info
    have HZ := Lib.hid (And.intro hi0 (And.intro hz0 (And.intro hz1 hz2)))
    clear hi0 hz0 hz1 hz2
    have H := Lib.hid hr
    have HT := Lib.hid (decide_eq_true hr)
    have HD := Lib.hid (dl_snoc hr)
    have HN := Lib.hid (show (Lit.int .u8 n).wf = true from WalkArith.wf_u8 (by omega))
    have H0 := Lib.hid (show (Lit.int .u8 0).wf = true from WalkArith.wf_u8 (by omega))
    have H78 := Lib.hid (show (Lit.int .u8 78).wf = true from WalkArith.wf_u8 (by omega))
    obtain ⟨c, hc⟩ : ∃ c : Int, ((crc [n, 0] : Nat) : Int) % 256 = c := ⟨_, rfl⟩
    have HC := Lib.hid hc
    have HCW := Lib.hid (show (Lit.int .u8 c).wf = true from WalkArith.wf_u8 (by omega))
    rw [hc] at HD
    clear hc hr
    have x0 : ∀ w : World, (Instr.index 55 (.agg #[.func (.func 63) #[] #[], .func (.func 64) #[] #[], .func (.func 65) #[] #[], .func (.func 66) #[] #[]]) (.int .i64 0)).run Try.prog w = .ok (.func (.func 63) #[] #[]) w := fun _ => by kernel_rfl
    have x1 : ∀ w : World, (Instr.index 55 (.agg #[.func (.func 63) #[] #[], .func (.func 64) #[] #[], .func (.func 65) #[] #[], .func (.func 66) #[] #[]]) (.int .i64 1)).run Try.prog w = .ok (.func (.func 64) #[] #[]) w := fun _ => by kernel_rfl
    have x2 : ∀ w : World, (Instr.index 55 (.agg #[.func (.func 63) #[] #[], .func (.func 64) #[] #[], .func (.func 65) #[] #[], .func (.func 66) #[] #[]]) (.int .i64 2)).run Try.prog w = .ok (.func (.func 65) #[] #[]) w := fun _ => by kernel_rfl
    have x3 : ∀ w : World, (Instr.index 55 (.agg #[.func (.func 63) #[] #[], .func (.func 64) #[] #[], .func (.func 65) #[] #[], .func (.func 66) #[] #[]]) (.int .i64 3)).run Try.prog w = .ok (.func (.func 66) #[] #[]) w := fun _ => by kernel_rfl
    go_enter Try.func19, Try.ntmps19
    go_wp2_with fail
    (with_reducible refine (implFl n true HT.out _).mono ?_)
    rintro e w1 ⟨rfl, rfl⟩
    go_wp2_with fail
    (with_reducible refine (tableM _).mono ?_)
    rintro e w1 ⟨rfl, hb⟩
    have O0 := Lib.hid ((Ow.empty 5 .u8 w).below hb).up
    have B0 := Lib.hid (((Below.refl w.heap.size w).alloc (Nat.le_refl _) (.cells #[] 5)).trans (hb.mono (by simp)))
    clear hb
    go_wp2_with fail
    go_loopw [3, 12] (fun s i wr => ∃ (A : Option Addr) (cp : Nat), Below w.heap.size w wr ∧ ((i = .int .i64 0 ∧ s = .slice A 0 cp ∧ Ow 5 .u8 wr w.heap.size wr.heap.size A 0 cp (([] : List Int))) ∨ (i = .int .i64 1 ∧ s = .slice A 1 cp ∧ Ow 5 .u8 wr w.heap.size wr.heap.size A 1 cp ((dlm n).take 1)) ∨ (i = .int .i64 2 ∧ s = .slice A 2 cp ∧ Ow 5 .u8 wr w.heap.size wr.heap.size A 2 cp ((dlm n).take 2)) ∨ (i = .int .i64 3 ∧ s = .slice A 3 cp ∧ Ow 5 .u8 wr w.heap.size wr.heap.size A 3 cp ((dlm n).take 3)) ∨ (i = .int .i64 4 ∧ s = .slice A 4 cp ∧ Ow 5 .u8 wr w.heap.size wr.heap.size A 4 cp (dlm n)))) (fun _ i _ => 4 - (intOf i).toNat)
    case atStart => exact ⟨_, _, B0.out, .inl ⟨rfl, rfl, O0.out⟩⟩
    case round =>
      obtain ⟨A, cp, hb, hs⟩ := hrel
      have HB := Lib.hid hb
      have hbs := hb.size
      clear hb
      rcases hs with ⟨rfl, rfl, ho⟩ | ⟨rfl, rfl, ho⟩ | ⟨rfl, rfl, ho⟩ | ⟨rfl, rfl, ho⟩ | ⟨rfl, rfl, ho⟩
      · have HO := Lib.hid ho
        clear ho
        go_wp2_with fail
        (with_reducible refine (lowM n H.out _).mono ?_)
        rintro e w2 ⟨rfl, rfl⟩
        go_wp2_with (at_builtin; refine wpList_app _ rfl _ _ 22 rfl 5 i0 _ .u8 Try.underlying22 HZ.out.1 HZ.out.2.1 HZ.out.2.2.1 (by rw [HZ.out.2.2.2]; omega) rfl rfl rfl (HO.out.alloc _) (Rd.one .u8 _ _ _ HN.out) (by omega) (by simp; omega) ?_; intro A1 cap1 w1 ho hb1; have HO1 := Lib.hid ho; have HB1 := Lib.hid (HB.out.trans (Below.trans ((Below.refl _ _).alloc (by omega) _) hb1)); clear ho hb1)
        go_roundw
        case rel => exact ⟨A1, cap1, HB1.out, .inr (.inl ⟨by go_num, by go_num, by have h9 := HO1.out; rw [HD.out.1]; exact h9⟩)⟩
        case measure => simp [intOf]
      · have HO := Lib.hid ho
        clear ho
        go_wp2_with fail
        (with_reducible refine (highM n H.out _).mono ?_)
        rintro e w2 ⟨rfl, rfl⟩
        go_wp2_with (at_builtin; refine wpList_app _ rfl _ _ 22 rfl 5 i0 _ .u8 Try.underlying22 HZ.out.1 HZ.out.2.1 HZ.out.2.2.1 (by rw [HZ.out.2.2.2]; omega) rfl rfl rfl (HO.out.alloc _) (Rd.one .u8 _ _ _ H0.out) (by omega) (by simp; omega) ?_; intro A1 cap1 w1 ho hb1; have HO1 := Lib.hid ho; have HB1 := Lib.hid (HB.out.trans (Below.trans ((Below.refl _ _).alloc (by omega) _) hb1)); clear ho hb1)
        go_roundw
        case rel => exact ⟨A1, cap1, HB1.out, .inr (.inr (.inl ⟨by go_num, by go_num, by have h9 := HO1.out; rw [HD.out.1] at h9; rw [HD.out.2.1]; exact h9⟩))⟩
        case measure => simp [intOf]
      · have HO := Lib.hid ho
        clear ho
        go_wp2_with fail
        (with_reducible refine (checkM n H.out _).mono ?_)
        rw [HC.out]
        rintro e w2 ⟨rfl, hb⟩
        have HO2 := Lib.hid (HO.out.below hb).up
        have HB2 := Lib.hid (HB.out.trans (hb.mono HB.out.size))
        have hs2 := HB2.out.size
        clear hb HO HB
        go_wp2_with (at_builtin; refine wpList_app _ rfl _ _ 22 rfl 5 i0 _ .u8 Try.underlying22 HZ.out.1 HZ.out.2.1 HZ.out.2.2.1 (by rw [HZ.out.2.2.2]; omega) rfl rfl rfl (HO2.out.alloc _) (Rd.one .u8 _ _ _ HCW.out) (by omega) (by simp; omega) ?_; intro A1 cap1 w1 ho hb1; have HO1 := Lib.hid ho; have HB1 := Lib.hid (HB2.out.trans (Below.trans ((Below.refl _ _).alloc (by omega) _) hb1)); clear ho hb1)
        go_roundw
        case rel => exact ⟨A1, cap1, HB1.out, .inr (.inr (.inr (.inl ⟨by go_num, by go_num, by have h9 := HO1.out; rw [HD.out.2.1] at h9; rw [HD.out.2.2.1]; exact h9⟩)))⟩
        case measure => simp [intOf]
      · have HO := Lib.hid ho
        clear ho
        go_wp2_with fail
        (with_reducible refine (markM n H.out _).mono ?_)
        rintro e w2 ⟨rfl, rfl⟩
        go_wp2_with (at_builtin; refine wpList_app _ rfl _ _ 22 rfl 5 i0 _ .u8 Try.underlying22 HZ.out.1 HZ.out.2.1 HZ.out.2.2.1 (by rw [HZ.out.2.2.2]; omega) rfl rfl rfl (HO.out.alloc _) (Rd.one .u8 _ _ _ H78.out) (by omega) (by simp; omega) ?_; intro A1 cap1 w1 ho hb1; have HO1 := Lib.hid ho; have HB1 := Lib.hid (HB.out.trans (Below.trans ((Below.refl _ _).alloc (by omega) _) hb1)); clear ho hb1)
        go_roundw
        case rel => exact ⟨A1, cap1, HB1.out, .inr (.inr (.inr (.inr (⟨by go_num, by go_num, by have h9 := HO1.out; rw [HD.out.2.2.1] at h9; rw [HD.out.2.2.2]; exact h9⟩))))⟩
        case measure => simp [intOf]
      · have HO := Lib.hid ho
        clear ho
        go_wp2_with fail
        go_ret
        exact ⟨_, _, _, rfl, HO.out, HB.out⟩
  · have HT := Lib.hid (decide_eq_false hr)
    have HV := Lib.hid (dlm_no hr)
    rw [HV.out]
    clear hr
    go_enter Try.func19, Try.ntmps19
    go_wp2_with fail
    (with_reducible refine (implFl n false HT.out _).mono ?_)
    rintro e w1 ⟨rfl, rfl⟩
    go_wp2_with fail
    go_ret
    exact ⟨_, _, _, rfl, (Ow.empty _ _ _).up, (Below.refl _ _).alloc (Nat.le_refl _) _⟩
set_option maxRecDepth 100000 in
set_option maxHeartbeats 4000000 in
theorem specDb (n : Int) (w : World) :
    Calls Try.prog 23 #[.int .i64 n] w (SlPost 5 .u8 w (dlm n)) := by
  by_cases hr : 0 ≤ n ∧ n ≤ 200
  · obtain ⟨i0, hi0, hz0, hz1, hz2⟩ := info_parts u8Info
    have HZ := Lib.hid (And.intro hi0 (And.intro hz0 (And.intro hz1 hz2)))
    clear hi0 hz0 hz1 hz2
    have HT := Lib.hid (decide_eq_true hr)
    have HD := Lib.hid (dl_snoc hr).2.2.2
    have HN := Lib.hid (show (Lit.int .u8 n).wf = true from WalkArith.wf_u8 (by omega))
    have H0 := Lib.hid (show (Lit.int .u8 0).wf = true from WalkArith.wf_u8 (by omega))
    have H78 := Lib.hid (show (Lit.int .u8 78).wf = true from WalkArith.wf_u8 (by omega))
    obtain ⟨c, hc⟩ : ∃ c, crc [n, 0] = c := ⟨_, rfl⟩
    have HC := Lib.hid hc
    have hc2 : c < 65536 := by rw [← hc]; exact crc_lt (two_byt (by omega))
    have HCW := Lib.hid (show (Lit.int .u8 ((c : Int) % 256)).wf = true from WalkArith.wf_u8 (by omega))
    rw [hc] at HD
    have hq : n % 256 = n := by omega
    have hq2 : n / 256 = 0 := by omega
    clear hc hr
    go_enter Try.func23, Try.ntmps23
    go_wp2_with fail
    (with_reducible refine (specFl n true HT.out _).mono ?_)
    rintro e w1 ⟨rfl, rfl⟩
    go_wp2_with fail
    (with_reducible refine (specCrc [n, 0] _ _ _ 2 2 _ (two_rd w n 0 HN.out H0.out)).mono ?_)
    rw [HC.out]
    rintro e w1 ⟨rfl, rfl⟩
    go_wp2_with (go_loud (at_builtin; refine wpList_app _ rfl _ _ 22 rfl 5 i0 _ .u8 Try.underlying22 HZ.out.1 HZ.out.2.1 HZ.out.2.2.1 (by rw [HZ.out.2.2.2]; omega) rfl rfl rfl ((two_ow w n 0 HN.out H0.out).alloc _) (show Rd .u8 ((w.alloc (.cells #[.int .u8 n, .int .u8 0] 5)).alloc (.cells #[.int .u8 ((c : Int) % 256), .int .u8 78] 5)) (w.heap.size + 1) (w.heap.size + 2) (some ⟨w.heap.size + 1, 0, none⟩) 2 2 [(c : Int) % 256, 78] by have hh := two_rd (w.alloc (.cells #[.int .u8 n, .int .u8 0] 5)) ((c : Int) % 256) 78 HCW.out H78.out; simpa using hh) (by omega) (by simp; omega) ?_; intro A1 cap1 w1 ho hb1; have HO1 := Lib.hid ho; have HB1 := Lib.hid ((((Below.refl w.heap.size w).alloc (Nat.le_refl _) _).alloc (by simp) _).trans hb1); clear ho hb1))
    go_ret
    rw [HD.out]
    exact ⟨_, _, _, rfl, by simpa using HO1.out, HB1.out⟩
  · have HT := Lib.hid (decide_eq_false hr)
    have HV := Lib.hid (dlm_no hr)
    rw [HV.out]
    clear hr
    go_enter Try.func23, Try.ntmps23
    go_wp2_with fail
    (with_reducible refine (specFl n false HT.out _).mono ?_)
    rintro e w1 ⟨rfl, rfl⟩
    go_wp2_with fail
    go_ret
    exact ⟨_, _, _, rfl, (Ow.empty _ _ _).up, (Below.refl _ _).alloc (Nat.le_refl _) _⟩
end Go.Proofs.Ythgbmcdfbinpkaa.ag
