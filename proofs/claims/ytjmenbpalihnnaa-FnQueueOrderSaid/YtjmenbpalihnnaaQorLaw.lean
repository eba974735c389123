/- The law function of the order of queues (FnQueueOrder) returns true and leaves what was there. Condition: the argument is a slice of bytes that came in. -/
import Derived.Test.YtjmenbpalihnnaaQsm
import Derived.Test.YtjmenbpalihnnaaDrz
import Derived.Test.YtjmenbpalihnnaaQlx
import Derived.Test.YtjmenbpalihnnaaAtv
import Derived.Deep.Cut
namespace Go.Proofs.Ytjmenbpalihnnaa.qorLaw
open Go.RowKit sl harn bx mrw mq
set_option linter.unusedVariables false
set_option linter.unusedSimpArgs false

set_option maxRecDepth 100000 in
set_option maxHeartbeats 16000000 in
theorem walk (a : Option Addr) (len cap : Nat) (zz : List Int) (w : World) (r0 : kit.IsRow .u8 w a len cap zz) :
    Calls Try.prog 4 #[.slice a len cap] w fun e w' => e = .returned (.bool true) ∧ Below w.heap.size w w' := by
  obtain ⟨i0, hi0, hz0, hz1, hz2⟩ := info_parts infoM
  have HZ := Lib.hid (And.intro hi0 (And.intro hz0 (And.intro hz1 hz2)))
  clear hi0 hz0 hz1 hz2
  have HC := Lib.hid (draw.code_of_row r0)
  have hlen : (len : Int) ≤ 9223372036854775807 := by have := HC.out.1; omega
  have HLEN := Lib.hid hlen
  have R0 := Lib.hid r0
  clear r0
  by_cases hbig : 1048576 < (len : Int)
  · go_enter Try.func4, Try.ntmps4
    go_wp2
    go_ret
    exact ⟨rfl, Below.refl _ _⟩
  have HBG := Lib.hid hbig
  go_enter Try.func4, Try.ntmps4
  go_wp2_with (go_at_call 12; go_in)
  clear hbig
  go_wp2_with fail
  (with_reducible refine (drawNm _ a len cap HC.out).mono ?_)
  rintro e w1 ⟨A, n, c, es, d, rfl, hq, ho, hb⟩
  obtain ⟨ms, hms⟩ : ∃ ms, es.map (fun e : El Msg => e.x) = ms := ⟨_, rfl⟩
  rw [hms] at hq
  have HQD := Lib.hid hq
  have Q1 := Lib.hid (show Rq msg w1 w.heap.size w1.heap.size A n c ms from hms ▸ ho.rq)
  have B1 := Lib.hid hb
  obtain ⟨zb, hzb⟩ := Rd.of_row R0.out
  have K1 := Lib.hid (hzb.below hb)
  clear R0 hzb
  have HLN := Lib.hid Q1.out.len
  have HN := Lib.hid (show n ≤ 67108864 by have h1 := hq.1; have h2 := HLN.out; omega)
  have HBD := Lib.hid hq.bd
  have hdd := hq.2.2
  have hnl : n ≤ 13 := by have h1 := hq.1; have h2 := HLN.out; omega
  obtain ⟨k0, hk0⟩ : ∃ k, bst gt ms n = k := ⟨_, rfl⟩
  have HK0 := Lib.hid hk0
  have hkr := bst_range gt ms n
  rw [hk0] at hkr
  have HKG := Lib.hid (show ∀ j, j < n → (ms.getD j zm).2.1 ≤ (ms.getD k0.toNat zm).2.1 ∧ (j < k0.toNat → (ms.getD j zm).2.1 ≠ (ms.getD k0.toNat zm).2.1) by have hh := bst_gt ms n; rw [hk0] at hh; exact hh)
  clear hms hq ho hb HC hk0
  obtain ⟨bx, hbb⟩ : ∃ b, w1.heap.size = b := ⟨_, rfl⟩
  go_upto_region 4 with fail
  generalize hW : w1.alloc (.cells #[.slice A n c, .int .i64 d] 26) = w2
  have LX := Lib.hid (show w.heap.size ≤ bx ∧ w1.heap.size ≤ bx ∧ w.heap.size ≤ bx by have h1 := B1.out.size; have h2Q := Q1.out.hi_; have h2K := K1.out.hi_; have h3 := hbb; omega)
  have X2 := Lib.hid (show Bx 26 w2 bx #[.slice A n c, .int .i64 d] by rw [← hW, ← hbb]; exact Bx.made _ _ _)
  have hb : Below w1.heap.size w1 w2 := by rw [← hW]; exact below_box _ _
  (try rw [hbb])
  clear hW hbb
  have SS2 := Lib.hid hb.size
  have B2 := Lib.hid (B1.out.trans (hb.mono B1.out.size))
  have Q2 := Lib.hid (Q1.out.below hb)
  have K2 := Lib.hid (K1.out.below hb)
  clear hb B1 Q1 K1
  have LWX := Lib.hid X2.out.lt
  go_wp2_with (refine stw.list_load rfl 26 _ rfl (bx) rfl 26 _ X2.out Try.underlying26 rfl szQ ?_)
  (with_reducible refine (implNm ms d A n c _ _ _ Q2.out).mono ?_)
  rintro e w3 hp
  obtain ⟨rfl, hb⟩ := n_parts HK0.out hp
  clear hp
  have SS3 := Lib.hid hb.size
  have B3 := Lib.hid (B2.out.trans (hb.mono B2.out.size))
  have X3 := Lib.hid (X2.out.below hb)
  have Q3 := Lib.hid (Q2.out.below hb)
  have K3 := Lib.hid (K2.out.below hb)
  clear hb  B2 X2 Q2 K2
  have cX0 : w3.cell? ⟨bx, 0, none⟩ = some (.slice A n c) := X3.out.cell 0
  by_cases h0 : n = 0
  · have hk1 : k0 = -1 := by omega
    have hnz : ms = [] := List.eq_nil_of_length_eq_zero (by rw [HLN.out]; exact h0)
    subst h0
    subst hk1
    subst hnz
    have VT := Lib.hid (show tk ([] : List Msg) 0 = ([], zm, false) by simp [tk])
    clear cX0
    have cX0 : w3.cell? ⟨bx, 0, none⟩ = some (.slice A 0 c) := X3.out.cell 0
    go_upto_region 6 with fail
    go_wp2_with (refine stw.list_load rfl 26 _ rfl (bx) rfl 26 _ X3.out Try.underlying26 rfl szQ ?_)
    clear cX0
    (with_reducible refine (implTk [] d 0 (by decide) A 0 c _ _ HN.out HBD.out _ Q3.out).mono ?_)
    rw [VT.out]
    rintro e w4 hp
    obtain ⟨A1, n1, c1, es1, ⟨f0, A2, n2, c2⟩, rfl, g9, ho, hf, -, hb⟩ := t_parts hp
    clear hp
    have SS4 := Lib.hid hb.size
    have B4 := Lib.hid (B3.out.trans (hb.mono B3.out.size))
    have X4 := Lib.hid (X3.out.below hb)
    have Q4 := Lib.hid (Q3.out.below hb)
    have K4 := Lib.hid (K3.out.below hb)
    clear hb B3 X3 Q3 K3
    clear g9 ho hf
    obtain ⟨bt, hbb⟩ : ∃ b, w4.heap.size = b := ⟨_, rfl⟩
    go_upto_region 7 with fail
    generalize hW : (w4.alloc (.cells #[.slice A1 n1 c1, .int .i64 d] 26)).alloc (.cells #[.int .i64 zm.1, .int .i64 zm.2.1, .int .i64 zm.2.2.1, .slice A2 n2 c2] 28) = w5
    have LT := Lib.hid (show w.heap.size ≤ bt ∧ bx < bt ∧ w1.heap.size ≤ bt ∧ w.heap.size ≤ bt by have h1 := B4.out.size; have h2X := X4.out.lt; have h2Q := Q4.out.hi_; have h2K := K4.out.hi_; have h3 := hbb; omega)
    have T5 := Lib.hid (show Bx 26 w5 (bt) #[.slice A1 n1 c1, .int .i64 d] by
        rw [← hW, ← hbb]
        have hh : Bx 26 (w4.alloc (.cells #[.slice A1 n1 c1, .int .i64 d] 26)) (w4.heap.size) #[.slice A1 n1 c1, .int .i64 d] := by have hh := Bx.made 26 w4 #[.slice A1 n1 c1, .int .i64 d]; simpa using hh
        exact (hh.below (below_box _ _)))
    have LF := Lib.hid (show w.heap.size ≤ bt + 1 ∧ bx < bt + 1 ∧ w1.heap.size ≤ bt + 1 ∧ w.heap.size ≤ bt + 1 by have h1 := B4.out.size; have h2X := X4.out.lt; have h2Q := Q4.out.hi_; have h2K := K4.out.hi_; have h3 := hbb; omega)
    have F5 := Lib.hid (show Bx 28 w5 (bt + 1) #[.int .i64 zm.1, .int .i64 zm.2.1, .int .i64 zm.2.2.1, .slice A2 n2 c2] by
        rw [← hW, ← hbb]
        have hh : Bx 28 ((w4.alloc (.cells #[.slice A1 n1 c1, .int .i64 d] 26)).alloc (.cells #[.int .i64 zm.1, .int .i64 zm.2.1, .int .i64 zm.2.2.1, .slice A2 n2 c2] 28)) (w4.heap.size + 1) #[.int .i64 zm.1, .int .i64 zm.2.1, .int .i64 zm.2.2.1, .slice A2 n2 c2] := by have hh := Bx.made 28 (w4.alloc (.cells #[.slice A1 n1 c1, .int .i64 d] 26)) #[.int .i64 zm.1, .int .i64 zm.2.1, .int .i64 zm.2.2.1, .slice A2 n2 c2]; simpa using hh
        exact hh)
    have hb : Below w4.heap.size w4 w5 := by rw [← hW]; exact ((Below.refl _ _).alloc (by simp <;> omega) _).alloc (by simp <;> omega) _
    (try rw [hbb])
    clear hW hbb
    have SS5 := Lib.hid hb.size
    have B5 := Lib.hid (B4.out.trans (hb.mono B4.out.size))
    have X5 := Lib.hid (X4.out.below hb)
    have Q5 := Lib.hid (Q4.out.below hb)
    have K5 := Lib.hid (K4.out.below hb)
    clear hb B4 X4 Q4 K4
    go_wp2_with fail
    go_ret
    exact ⟨rfl, B5.out⟩
  · obtain ⟨kk, rfl⟩ : ∃ kk : Nat, k0 = (kk : Int) := ⟨k0.toNat, by omega⟩
    have hkn : kk < n := by omega
    have hkn2 : (kk : Int) < n := by omega
    have hn0 : ((n : Int) == 0) = false := by simp; omega
    clear cX0
    obtain ⟨bu, offu, u, hAu, hyu, h1u, h2u, Au', nu', cu', hdu, ce0u, ce1u, ce2u, ce3u⟩ := at_ Q3.out hkn
    have HYu := Lib.hid hyu
    have Du3 := Lib.hid hdu
    clear hyu hdu
    subst hAu
    have HGU := Lib.hid (getD_of HYu.out)
    have HKG2 := Lib.hid (show ∀ j, j < n → (ms.getD j zm).2.1 ≤ u.2.1 ∧ (j < kk → (ms.getD j zm).2.1 ≠ u.2.1) by have hh := HKG.out; rw [Int.toNat_natCast, HGU.out] at hh; exact hh)
    clear HKG
    clear ce0u ce1u ce2u ce3u
    have cX0 : w3.cell? ⟨bx, 0, none⟩ = some (.slice (some ⟨bu, offu, none⟩) n c) := X3.out.cell 0
    go_upto_region 10 with fail
    clear cX0
    go_wp2_with fail
    go_loopw [8] (fun v0 wr => ∃ (k : Nat), v0 = .int .i64 ((k : Int)) ∧ (k ≤ n) ∧ Below w.heap.size w wr ∧ Bx 26 wr bx #[.slice (some ⟨bu, offu, none⟩) n c, .int .i64 d] ∧ Rq msg wr w.heap.size w1.heap.size (some ⟨bu, offu, none⟩) n c ms ∧ Rd .u8 wr (0) (w.heap.size) a len cap zb ∧ Rd .u8 wr (w.heap.size) (w1.heap.size) Au' nu' cu' u.2.2.2) (fun i _ => n - (intOf i).toNat)
    case atStart => exact ⟨0, rfl, by omega, B3.out, X3.out, Q3.out, K3.out, Du3.out⟩
    case round =>
      obtain ⟨k, rfl, ghk, gB4, gX4, gQ4, gK4, gDu4⟩ := hrel
      have B4 := Lib.hid gB4
      have X4 := Lib.hid gX4
      have Q4 := Lib.hid gQ4
      have K4 := Lib.hid gK4
      have Du4 := Lib.hid gDu4
      have hk := Lib.hid ghk
      clear gB4 gX4 gQ4 gK4 gDu4 ghk
      have LUX4 := Lib.hid X4.out.lt
      have hk := hk.out
      have cX0 : wr.cell? ⟨bx, 0, none⟩ = some (.slice (some ⟨bu, offu, none⟩) n c) := X4.out.cell 0
      by_cases hlt : k < n
      · have hlt2 : (k : Int) < n := by omega
        go_upto_region 13 with fail
        clear cX0
        obtain ⟨b1, off1, y1, hA1, hy1, h11, h21, A1', n1', c1', hd1, c10, c11, c12, c13⟩ := at_ Q4.out hkn
        obtain rfl : u = y1 := Option.some.inj (HYu.out.symm.trans hy1)
        injection hA1 with hA1
        injection hA1 with hb1 ho1
        subst hb1
        subst ho1
        obtain ⟨b2, off2, y2, hA2, hy2, h12, h22, A2', n2', c2', hd2, c20, c21, c22, c23⟩ := at_ Q4.out hlt
        injection hA2 with hA2
        injection hA2 with hb2 ho2
        subst hb2
        subst ho2
        have HG2 := Lib.hid (getD_of hy2)
        have da0 : ∀ m : Af wr, m.w.cell? ⟨bu, offu + kk * 4, none⟩ = some (.int .i64 u.1) := fun m => by rw [m.below.cell (World.block_lt_of_cell? _ _ c10)]; exact c10
        have da1 : ∀ m : Af wr, m.w.cell? ⟨bu, offu + kk * 4 + 1, none⟩ = some (.int .i64 u.2.1) := fun m => by rw [m.below.cell (World.block_lt_of_cell? _ _ c11)]; exact c11
        have da2 : ∀ m : Af wr, m.w.cell? ⟨bu, offu + kk * 4 + 2, none⟩ = some (.int .i64 u.2.2.1) := fun m => by rw [m.below.cell (World.block_lt_of_cell? _ _ c12)]; exact c12
        have da3 : ∀ m : Af wr, m.w.cell? ⟨bu, offu + kk * 4 + 3, none⟩ = some (.slice A1' n1' c1') := fun m => by rw [m.below.cell (World.block_lt_of_cell? _ _ c13)]; exact c13
        have db0 : ∀ m : Af wr, m.w.cell? ⟨bu, offu + k * 4, none⟩ = some (.int .i64 y2.1) := fun m => by rw [m.below.cell (World.block_lt_of_cell? _ _ c20)]; exact c20
        have db1 : ∀ m : Af wr, m.w.cell? ⟨bu, offu + k * 4 + 1, none⟩ = some (.int .i64 y2.2.1) := fun m => by rw [m.below.cell (World.block_lt_of_cell? _ _ c21)]; exact c21
        have db2 : ∀ m : Af wr, m.w.cell? ⟨bu, offu + k * 4 + 2, none⟩ = some (.int .i64 y2.2.2.1) := fun m => by rw [m.below.cell (World.block_lt_of_cell? _ _ c22)]; exact c22
        have db3 : ∀ m : Af wr, m.w.cell? ⟨bu, offu + k * 4 + 3, none⟩ = some (.slice A2' n2' c2') := fun m => by rw [m.below.cell (World.block_lt_of_cell? _ _ c23)]; exact c23
        clear c10 c11 c12 c13 c20 c21 c22 c23 hy1 hy2 hd1 hd2
        have hgt := HKG2.out k hlt
        rw [HG2.out] at hgt
        have hcf : decide (u.2.1 < y2.2.1) = false := decide_eq_false (by omega)
        by_cases hik : k < kk
        · have hne : (y2.2.1 == u.2.1) = false := by simpa using hgt.2 hik
          have hd1 : decide ((k : Int) < kk) = true := decide_eq_true (by omega)
          clear hgt
          have qX0 : ∀ m : Af wr, m.w.cell? ⟨bx, 0, none⟩ = some (.slice (some ⟨bu, offu, none⟩) n c) := fun m => (Af.cells X4.out m).cell 0
          refine region_after (by kernel_rfl) (by kernel_rfl) ?_
          repeat (go_big_quiet_step (fail))
          refine wpQuiet_nil ?_
          intro _ hw'
          obtain ⟨nq, hw''⟩ := hw'
          subst hw''
          clear qX0 da0 da1 da2 da3 db0 db1 db2 db3 hd1 hcf hne
          obtain ⟨w5, hw5⟩ : ∃ w5, nq.w = w5 := ⟨_, rfl⟩
          have hb := nq.below
          rw [hw5] at hb
          (try rw [hw5])
          clear hw5
          have SS5 := Lib.hid hb.size
          have B5 := Lib.hid (B4.out.trans (hb.mono B4.out.size))
          have X5 := Lib.hid (X4.out.below hb)
          have Q5 := Lib.hid (Q4.out.below hb)
          have K5 := Lib.hid (K4.out.below hb)
          have Du5 := Lib.hid (Du4.out.below hb)
          clear hb nq B4 X4 Q4 K4 Du4
          go_wp2_with fail
          go_roundw
          case rel => exact ⟨k + 1, by go_num, by omega, B5.out, X5.out, Q5.out, K5.out, Du5.out⟩
          case measure => simp [intOf]; omega
        · have hd1 : decide ((k : Int) < kk) = false := decide_eq_false (by omega)
          clear hgt
          have qX0 : ∀ m : Af wr, m.w.cell? ⟨bx, 0, none⟩ = some (.slice (some ⟨bu, offu, none⟩) n c) := fun m => (Af.cells X4.out m).cell 0
          refine region_after (by kernel_rfl) (by kernel_rfl) ?_
          repeat (go_big_quiet_step (fail))
          refine wpQuiet_nil ?_
          intro _ hw'
          obtain ⟨nq, hw''⟩ := hw'
          subst hw''
          clear qX0 da0 da1 da2 da3 db0 db1 db2 db3 hd1 hcf
          obtain ⟨w5, hw5⟩ : ∃ w5, nq.w = w5 := ⟨_, rfl⟩
          have hb := nq.below
          rw [hw5] at hb
          (try rw [hw5])
          clear hw5
          have SS5 := Lib.hid hb.size
          have B5 := Lib.hid (B4.out.trans (hb.mono B4.out.size))
          have X5 := Lib.hid (X4.out.below hb)
          have Q5 := Lib.hid (Q4.out.below hb)
          have K5 := Lib.hid (K4.out.below hb)
          have Du5 := Lib.hid (Du4.out.below hb)
          clear hb nq B4 X4 Q4 K4 Du4
          go_wp2_with fail
          go_roundw
          case rel => exact ⟨k + 1, by go_num, by omega, B5.out, X5.out, Q5.out, K5.out, Du5.out⟩
          case measure => simp [intOf]; omega
      · have hlt2 : ¬ (k : Int) < n := by omega
        go_upto_region 15 with fail
        clear cX0
        clear hlt2
        have VT := Lib.hid (show tk ms (kk : Int) = (ms.eraseIdx kk, u, true) by unfold tk; rw [if_pos (by rw [HLN.out]; omega), Int.toNat_natCast, HGU.out])
        obtain ⟨lf, hlf⟩ : ∃ lf, wr.heap.size = lf := ⟨_, rfl⟩
        have LLF := Lib.hid (show w.heap.size ≤ lf ∧ bx < lf ∧ w1.heap.size ≤ lf by have h1 := B4.out.size; have h2 := X4.out.lt; have h3 := Q4.out.hi_; omega)
        have HLF := Lib.hid hlf
        clear hlf
        go_wp2_with (refine stw.list_load rfl 26 _ rfl (bx) rfl 26 _ X4.out Try.underlying26 rfl szQ ?_)
        (with_reducible refine (implTk ms d (kk : Int) (WalkArith.wf_i64 (by omega)) _ n c _ _ HN.out HBD.out _ Q4.out).mono ?_)
        rw [VT.out]
        rintro e w5 hp
        obtain ⟨A3, n3, c3, es3, ⟨f0, A4, n4, c4⟩, rfl, g9, ho, hf, -, hb⟩ := t_parts hp
        clear hp
        have SS5 := Lib.hid hb.size
        have B5 := Lib.hid (B4.out.trans (hb.mono B4.out.size))
        have X5 := Lib.hid (X4.out.below hb)
        have Q5 := Lib.hid (Q4.out.below hb)
        have K5 := Lib.hid (K4.out.below hb)
        have Du5 := Lib.hid (Du4.out.below hb)
        clear hb B4 X4 Q4 K4 Du4
        rw [HLF.out] at hf ho
        have F5 := Lib.hid hf.rd
        have hn3 : n3 = n - 1 := by have h1 := ho.len; have h2 := congrArg List.length g9; rw [List.length_map, h1, List.length_eraseIdx, HLN.out, if_pos hkn] at h2; exact h2
        have HN3 := Lib.hid hn3
        clear g9 ho hf hn3
        obtain ⟨bt, hbb⟩ : ∃ b, w5.heap.size = b := ⟨_, rfl⟩
        go_upto_region 16 with fail
        generalize hW : (w5.alloc (.cells #[.slice A3 n3 c3, .int .i64 d] 26)).alloc (.cells #[.int .i64 u.1, .int .i64 u.2.1, .int .i64 u.2.2.1, .slice A4 n4 c4] 28) = w6
        have LT := Lib.hid (show w.heap.size ≤ bt ∧ bx < bt ∧ w1.heap.size ≤ bt ∧ w.heap.size ≤ bt ∧ w1.heap.size ≤ bt ∧ w5.heap.size ≤ bt by have h1 := B5.out.size; have h2X := X5.out.lt; have h2Q := Q5.out.hi_; have h2K := K5.out.hi_; have h2Du := Du5.out.hi_; have h2F := F5.out.hi_; have h3 := hbb; omega)
        have T6 := Lib.hid (show Bx 26 w6 (bt) #[.slice A3 n3 c3, .int .i64 d] by
            rw [← hW, ← hbb]
            have hh : Bx 26 (w5.alloc (.cells #[.slice A3 n3 c3, .int .i64 d] 26)) (w5.heap.size) #[.slice A3 n3 c3, .int .i64 d] := by have hh := Bx.made 26 w5 #[.slice A3 n3 c3, .int .i64 d]; simpa using hh
            exact (hh.below (below_box _ _)))
        have LG := Lib.hid (show w.heap.size ≤ bt + 1 ∧ bx < bt + 1 ∧ w1.heap.size ≤ bt + 1 ∧ w.heap.size ≤ bt + 1 ∧ w1.heap.size ≤ bt + 1 ∧ w5.heap.size ≤ bt + 1 by have h1 := B5.out.size; have h2X := X5.out.lt; have h2Q := Q5.out.hi_; have h2K := K5.out.hi_; have h2Du := Du5.out.hi_; have h2F := F5.out.hi_; have h3 := hbb; omega)
        have G6 := Lib.hid (show Bx 28 w6 (bt + 1) #[.int .i64 u.1, .int .i64 u.2.1, .int .i64 u.2.2.1, .slice A4 n4 c4] by
            rw [← hW, ← hbb]
            have hh : Bx 28 ((w5.alloc (.cells #[.slice A3 n3 c3, .int .i64 d] 26)).alloc (.cells #[.int .i64 u.1, .int .i64 u.2.1, .int .i64 u.2.2.1, .slice A4 n4 c4] 28)) (w5.heap.size + 1) #[.int .i64 u.1, .int .i64 u.2.1, .int .i64 u.2.2.1, .slice A4 n4 c4] := by have hh := Bx.made 28 (w5.alloc (.cells #[.slice A3 n3 c3, .int .i64 d] 26)) #[.int .i64 u.1, .int .i64 u.2.1, .int .i64 u.2.2.1, .slice A4 n4 c4]; simpa using hh
            exact hh)
        have hb : Below w5.heap.size w5 w6 := by rw [← hW]; exact ((Below.refl _ _).alloc (by simp <;> omega) _).alloc (by simp <;> omega) _
        (try rw [hbb])
        clear hW hbb
        have SS6 := Lib.hid hb.size
        have B6 := Lib.hid (B5.out.trans (hb.mono B5.out.size))
        have X6 := Lib.hid (X5.out.below hb)
        have Q6 := Lib.hid (Q5.out.below hb)
        have K6 := Lib.hid (K5.out.below hb)
        have Du6 := Lib.hid (Du5.out.below hb)
        have F6 := Lib.hid (F5.out.below hb)
        clear hb B5 X5 Q5 K5 Du5 F5
        have hl8 : len ≤ 1048576 := by have := HBG.out; omega
        obtain ⟨v0, hv0⟩ : ∃ v, lawAt.atv zb len 0 = v := ⟨_, rfl⟩
        have HV0 := Lib.hid hv0
        have hv1 : 0 ≤ v0 ∧ v0 ≤ 255 := by rw [← hv0]; exact lawAt.atv_in K6.out 0
        obtain ⟨t, ht⟩ : ∃ t, v0 % 25 = t := ⟨_, rfl⟩
        have ht1 : v0.tmod 25 = t := by rw [Int.tmod_eq_emod_of_nonneg hv1.1]; exact ht
        have HT := Lib.hid ht
        have HT1 := Lib.hid ht1
        have HV1 := Lib.hid hv1
        have HL8 := Lib.hid hl8
        obtain ⟨⟨l, d1⟩, hvb⟩ : ∃ p : List Msg × Int, (keep t ms n, drp t ms d n) = p := ⟨_, rfl⟩
        have VQ := Lib.hid hvb
        clear hv0 hl8 ht ht1 hv1 hvb
        refine reg.region_tail reg.Bel 6 156 [some [], some [], some [(1, 93)], some [(2, 94)], some [(0, 92), (3, 95)], some [], none] [(0, 92), (1, 93), (2, 94), (3, 95), (4, 96), (5, 12)]
          (fun w' => Below w.heap.size w w' ∧ Bx 26 w' (bx) #[.slice (some ⟨bu, offu, none⟩) n c, .int .i64 d] ∧ Bx 26 w' (bt) #[.slice A3 n3 c3, .int .i64 d] ∧ Bx 28 w' (bt + 1) #[.int .i64 u.1, .int .i64 u.2.1, .int .i64 u.2.2.1, .slice A4 n4 c4] ∧ Rq msg w' w.heap.size w1.heap.size (some ⟨bu, offu, none⟩) n c ms ∧ Rd .u8 w' (0) (w.heap.size) a len cap zb ∧ Rd .u8 w' (w.heap.size) (w1.heap.size) Au' nu' cu' u.2.2.2 ∧ Rd .u8 w' (lf) (w5.heap.size) A4 n4 c4 u.2.2.2 ∧ True)
          (reg.rl [reg.is (.agg #[.slice (some ⟨bu, offu, none⟩) n c, .int .i64 d]), reg.is (.slice a len cap), reg.is (.int .i64 v0), reg.is (.int .i64 t), qrow l d1, stw.mk 26 (bt + 1) #[.slice none 0 0, .int .i64 0], reg.free])
          (by kernel_rfl) rfl (by kernel_rfl) (by kernel_rfl) rfl
          (fun w1 w2 hc hb => ⟨hc.1.trans (hb.mono hc.1.size), hc.2.1.below hb, hc.2.2.1.below hb, hc.2.2.2.1.below hb, hc.2.2.2.2.1.below hb, hc.2.2.2.2.2.1.below hb, hc.2.2.2.2.2.2.1.below hb, hc.2.2.2.2.2.2.2.1.below hb, trivial⟩) (reg.rl_keep _) (⟨own.below_drew B6.out, X6.out.same rfl, T6.out.same rfl, G6.out.same rfl, Q6.out.same (Nat.le_refl _) (fun _ _ _ => rfl), own.rd_drew K6.out, own.rd_drew Du6.out, own.rd_drew F6.out, trivial⟩) (by kernel_rfl) ⟨?_, ?_, ?_, ?_, ?_, ?_, trivial⟩ ?_
        · refine fun w8 hc  K hK => ?_
          (try simp only [Act.put, List.setIfInBounds_toArray, List.set_cons_zero, List.set_cons_succ])
          rw [if_pos (by rfl)]
          refine stw.wp_load_bx 26 _ rfl (bx) rfl 26 _ hc.2.1 Try.underlying26 rfl szQ ?_
          exact hK _ _ rfl (Below.refl _ _)
        · refine fun w8 hc  K hK => ?_
          (try simp only [Act.put, List.setIfInBounds_toArray, List.set_cons_zero, List.set_cons_succ])
          go_simp
          exact hK (.slice a len cap) _ rfl (Below.refl _ _)
        · refine fun w8 hc v1 h1 K hK => ?_
          obtain rfl : v1 = .slice a len cap := h1
          (try simp only [Act.put, List.setIfInBounds_toArray, List.set_cons_zero, List.set_cons_succ])
          go_simp
          (with_reducible refine (lawAt.at_v 0 0 rfl (by omega) v0 _ _ _ _ _ zb _ hc.2.2.2.2.2.1 HL8.out HV0.out).mono ?_)
          rintro e w3 ⟨rfl, rfl⟩
          exact hK _ _ rfl (Below.refl _ _)
        · refine fun w8 hc v2 h2 K hK => ?_
          obtain rfl : v2 = .int .i64 v0 := h2
          (try simp only [Act.put, List.setIfInBounds_toArray, List.set_cons_zero, List.set_cons_succ])
          have ht1 := HT1.out
          have ht2 := HT.out
          go_simp
          exact hK (.int .i64 t) _ rfl (Below.refl _ _)
        · refine fun w8 hc v0 h0 v3 h3 K hK => ?_
          obtain rfl : v0 = .agg #[.slice (some ⟨bu, offu, none⟩) n c, .int .i64 d] := h0
          obtain rfl : v3 = .int .i64 t := h3
          (try simp only [Act.put, List.setIfInBounds_toArray, List.set_cons_zero, List.set_cons_succ])
          go_simp
          (with_reducible refine (implXp t ms d _ n c _ _ HN.out HBD.out _ hc.2.2.2.2.1).mono ?_)
          rw [VQ.out]
          rintro e w3 hp
          obtain ⟨A2, m2, c2, es2, rfl, g9, ho, hb⟩ := q_parts2 hp
          exact hK _ _ ⟨A2, m2, c2, _, _, es2, rfl, g9, ho⟩ hb
        · refine fun w8 hc  K hK => ?_
          (try simp only [Act.put, List.setIfInBounds_toArray, List.set_cons_zero, List.set_cons_succ])
          rw [if_pos (by rfl)]
          have hlt := hc.2.2.2.1.lt
          go_simp
          exact hK (.pointer (some ⟨w8.heap.size, 0, none⟩)) _ ⟨w8.heap.size, rfl, hlt, Bx.made _ _ _⟩ (below_box _ _)
        refine fun wg7 hc v0 h0 v1 h1 v2 h2 v3 h3 v4 h4 v5 h5 => ?_
        obtain rfl : v0 = .agg #[.slice (some ⟨bu, offu, none⟩) n c, .int .i64 d] := h0
        obtain rfl : v1 = .slice a len cap := h1
        obtain rfl : v2 = .int .i64 v0 := h2
        obtain rfl : v3 = .int .i64 t := h3
        obtain ⟨A5, n5, c5, lo5, hi5, es5, rfl, hE5, hO5⟩ := h4
        obtain ⟨qE, rfl, hq, hP⟩ : ∃ q, v5 = .pointer (some ⟨q, 0, none⟩) ∧ bt + 1 < q ∧ Bx 26 wg7 q #[.slice none 0 0, .int .i64 0] := h5
        (try simp only [reg.Obs])
        (try simp only [Act.put, List.setIfInBounds_toArray, List.set_cons_zero, List.set_cons_succ])
        simp only [List.drop_succ_cons, List.drop_zero]
        have B7 := Lib.hid hc.1
        have X7 := Lib.hid hc.2.1
        have T7 := Lib.hid hc.2.2.1
        have G7 := Lib.hid hc.2.2.2.1
        have Q7 := Lib.hid hc.2.2.2.2.1
        have K7 := Lib.hid hc.2.2.2.2.2.1
        have Du7 := Lib.hid hc.2.2.2.2.2.2.1
        have F7 := Lib.hid hc.2.2.2.2.2.2.2.1
        clear hc B6 X6 T6 G6 Q6 K6 Du6 F6
        have LE := Lib.hid hq
        have E7 := Lib.hid hP
        have L7 := Lib.hid hO5
        have HE5 := Lib.hid hE5
        clear hq hP hO5 hE5
        refine stw.list_store rfl 26 _ _ rfl (qE) #[.slice A5 n5 c5, .int .i64 d1] rfl rfl 26 _ E7.out rfl szQ (oneQ _ _ _ _) ?_
        intro wz8 hz
        (try simp only [Act.put])
        have B8 := Lib.hid (hz.on B7.out (by have hlX := LX.out; have hlT := LT.out; have hlG := LG.out; have hlE := LE.out; have hs0 := SS2.out; have hs1 := LWX.out; have hs2 := SS3.out; have hs3 := LUX4.out; have hs4 := SS5.out; have hs5 := LLF.out; have hs6 := SS6.out; first | omega | (simp <;> omega)))
        have X8 := Lib.hid (hz.keep X7.out (by have hlX := LX.out; have hlT := LT.out; have hlG := LG.out; have hlE := LE.out; have hs0 := SS2.out; have hs1 := LWX.out; have hs2 := SS3.out; have hs3 := LUX4.out; have hs4 := SS5.out; have hs5 := LLF.out; have hs6 := SS6.out; first | omega | (simp <;> omega)))
        have T8 := Lib.hid (hz.keep T7.out (by have hlX := LX.out; have hlT := LT.out; have hlG := LG.out; have hlE := LE.out; have hs0 := SS2.out; have hs1 := LWX.out; have hs2 := SS3.out; have hs3 := LUX4.out; have hs4 := SS5.out; have hs5 := LLF.out; have hs6 := SS6.out; first | omega | (simp <;> omega)))
        have G8 := Lib.hid (hz.keep G7.out (by have hlX := LX.out; have hlT := LT.out; have hlG := LG.out; have hlE := LE.out; have hs0 := SS2.out; have hs1 := LWX.out; have hs2 := SS3.out; have hs3 := LUX4.out; have hs4 := SS5.out; have hs5 := LLF.out; have hs6 := SS6.out; first | omega | (simp <;> omega)))
        have E8 := Lib.hid (hz.box)
        have Q8 := Lib.hid (Q7.out.same hz.below.size fun b h1 h2 => hz.other b (by have hlX := LX.out; have hlT := LT.out; have hlG := LG.out; have hlE := LE.out; have hs0 := SS2.out; have hs1 := LWX.out; have hs2 := SS3.out; have hs3 := LUX4.out; have hs4 := SS5.out; have hs5 := LLF.out; have hs6 := SS6.out; first | omega | (simp <;> omega)))
        have K8 := Lib.hid (K7.out.same hz.below.size fun b h1 h2 => hz.other b (by have hlX := LX.out; have hlT := LT.out; have hlG := LG.out; have hlE := LE.out; have hs0 := SS2.out; have hs1 := LWX.out; have hs2 := SS3.out; have hs3 := LUX4.out; have hs4 := SS5.out; have hs5 := LLF.out; have hs6 := SS6.out; first | omega | (simp <;> omega)))
        have Du8 := Lib.hid (Du7.out.same hz.below.size fun b h1 h2 => hz.other b (by have hlX := LX.out; have hlT := LT.out; have hlG := LG.out; have hlE := LE.out; have hs0 := SS2.out; have hs1 := LWX.out; have hs2 := SS3.out; have hs3 := LUX4.out; have hs4 := SS5.out; have hs5 := LLF.out; have hs6 := SS6.out; first | omega | (simp <;> omega)))
        have F8 := Lib.hid (F7.out.same hz.below.size fun b h1 h2 => hz.other b (by have hlX := LX.out; have hlT := LT.out; have hlG := LG.out; have hlE := LE.out; have hs0 := SS2.out; have hs1 := LWX.out; have hs2 := SS3.out; have hs3 := LUX4.out; have hs4 := SS5.out; have hs5 := LLF.out; have hs6 := SS6.out; first | omega | (simp <;> omega)))
        have L8 := Lib.hid (rgp.oe_set L7.out E7.out (by decide) (by decide) hz.below.size (fun k hk => hz.other k hk))
        clear hz B7 X7 T7 G7 E7 Q7 K7 Du7 F7 L7
        skip
        have RL8 := Lib.hid (rq_of HE5.out L8.out)
        clear L8
        have L8 := RL8
        clear RL8
        have HLL := Lib.hid L8.out.len
        have hlk : l = keep t ms n ∧ d1 = drp t ms d n := ⟨(congrArg Prod.fst VQ.out).symm, (congrArg Prod.snd VQ.out).symm⟩
        have HLK := Lib.hid hlk
        have hkl : n5 ≤ n := by have h1 := keep_len t ms n; rw [← hlk.1, HLL.out] at h1; exact h1
        have hdk : d1 = d + ((n : Int) - n5) := by rw [hlk.2, drp_keep t ms d hdd n (by omega), ← hlk.1, HLL.out]
        have HDK := Lib.hid hdk
        clear hlk hdk
        have cE0 : wz8.cell? ⟨qE, 0, none⟩ = some (.slice A5 n5 c5) := E8.out.cell 0
        go_wp2_with fail
        clear cE0
        go_loopw [13] (fun v0 wr => ∃ (j : Nat), v0 = .int .i64 ((j : Int)) ∧ (j ≤ n5) ∧ Below w.heap.size w wr ∧ Bx 26 wr bx #[.slice (some ⟨bu, offu, none⟩) n c, .int .i64 d] ∧ Bx 26 wr bt #[.slice A3 n3 c3, .int .i64 d] ∧ Bx 28 wr (bt + 1) #[.int .i64 u.1, .int .i64 u.2.1, .int .i64 u.2.2.1, .slice A4 n4 c4] ∧ Bx 26 wr qE #[.slice A5 n5 c5, .int .i64 d1] ∧ Rq msg wr w.heap.size w1.heap.size (some ⟨bu, offu, none⟩) n c ms ∧ Rd .u8 wr (0) (w.heap.size) a len cap zb ∧ Rd .u8 wr (w.heap.size) (w1.heap.size) Au' nu' cu' u.2.2.2 ∧ Rd .u8 wr (lf) (w5.heap.size) A4 n4 c4 u.2.2.2 ∧ Rq msg wr lo5 hi5 A5 n5 c5 l) (fun i _ => n5 - (intOf i).toNat)
        case atStart => exact ⟨0, rfl, by omega, B8.out, X8.out, T8.out, G8.out, E8.out, Q8.out, K8.out, Du8.out, F8.out, L8.out⟩
        case round =>
          obtain ⟨j, rfl, ghj, gB9, gX9, gT9, gG9, gE9, gQ9, gK9, gDu9, gF9, gL9⟩ := hrel
          have B9 := Lib.hid gB9
          have X9 := Lib.hid gX9
          have T9 := Lib.hid gT9
          have G9 := Lib.hid gG9
          have E9 := Lib.hid gE9
          have Q9 := Lib.hid gQ9
          have K9 := Lib.hid gK9
          have Du9 := Lib.hid gDu9
          have F9 := Lib.hid gF9
          have L9 := Lib.hid gL9
          have hj := Lib.hid ghj
          clear gB9 gX9 gT9 gG9 gE9 gQ9 gK9 gDu9 gF9 gL9 ghj
          have LUX9 := Lib.hid X9.out.lt
          have LUT9 := Lib.hid T9.out.lt
          have LUG9 := Lib.hid G9.out.lt
          have LUE9 := Lib.hid E9.out.lt
          have hj := hj.out
          have cE0 : wr.cell? ⟨qE, 0, none⟩ = some (.slice A5 n5 c5) := E9.out.cell 0
          by_cases hlj : j < n5
          · have hlj2 : (j : Int) < n5 := by omega
            go_upto_region 20 with fail
            clear cE0
            obtain ⟨b3, off3, y3, hA3, hy3, h13, h23, A3', n3', c3', hd3, c30, c31, c32, c33⟩ := at_ L9.out hlj
            subst hA3
            have hye : ¬ y3.2.2.1 < t := keep_mem t ms n y3 (by rw [← HLK.out.1]; exact List.mem_of_getElem? hy3)
            have hyd : decide (y3.2.2.1 < t) = false := decide_eq_false hye
            have ht1 := HT1.out
            have ht2 := HT.out
            have dc0 : ∀ m : Af wr, m.w.cell? ⟨b3, off3 + j * 4, none⟩ = some (.int .i64 y3.1) := fun m => by rw [m.below.cell (World.block_lt_of_cell? _ _ c30)]; exact c30
            have dc1 : ∀ m : Af wr, m.w.cell? ⟨b3, off3 + j * 4 + 1, none⟩ = some (.int .i64 y3.2.1) := fun m => by rw [m.below.cell (World.block_lt_of_cell? _ _ c31)]; exact c31
            have dc2 : ∀ m : Af wr, m.w.cell? ⟨b3, off3 + j * 4 + 2, none⟩ = some (.int .i64 y3.2.2.1) := fun m => by rw [m.below.cell (World.block_lt_of_cell? _ _ c32)]; exact c32
            have dc3 : ∀ m : Af wr, m.w.cell? ⟨b3, off3 + j * 4 + 3, none⟩ = some (.slice A3' n3' c3') := fun m => by rw [m.below.cell (World.block_lt_of_cell? _ _ c33)]; exact c33
            clear c30 c31 c32 c33 hy3 hd3 hye
            have qE0 : ∀ m : Af wr, m.w.cell? ⟨qE, 0, none⟩ = some (.slice (some ⟨b3, off3, none⟩) n5 c5) := fun m => (Af.cells E9.out m).cell 0
            have qt := Lib.hid (fun m => (lawAt.at_v 0 0 rfl (by omega) v0 _ _ _ _ _ zb _ (K9.out.below m.below) HL8.out HV0.out).mono (fun e w' h => ⟨h.1, by rw [← h.2]; exact Below.refl _ _⟩) : ∀ m : Af wr, Calls Try.prog 26 #[.slice a len cap, .int .i64 0] m.w fun e w' => e = .returned (.int .i64 v0) ∧ Below m.w.heap.size m.w w')
            refine region_after (by kernel_rfl) (by kernel_rfl) ?_
            repeat (go_big_quiet_step ((go_at_call 26; with_reducible exact Af.call (qt.out _))))
            refine wpQuiet_nil ?_
            intro _ hw'
            obtain ⟨nq, hw''⟩ := hw'
            subst hw''
            clear qE0 dc0 dc1 dc2 dc3 qt hyd ht1 ht2
            obtain ⟨w10, hw5⟩ : ∃ w5, nq.w = w5 := ⟨_, rfl⟩
            have hb := nq.below
            rw [hw5] at hb
            (try rw [hw5])
            clear hw5
            have SS10 := Lib.hid hb.size
            have B10 := Lib.hid (B9.out.trans (hb.mono B9.out.size))
            have X10 := Lib.hid (X9.out.below hb)
            have T10 := Lib.hid (T9.out.below hb)
            have G10 := Lib.hid (G9.out.below hb)
            have E10 := Lib.hid (E9.out.below hb)
            have Q10 := Lib.hid (Q9.out.below hb)
            have K10 := Lib.hid (K9.out.below hb)
            have Du10 := Lib.hid (Du9.out.below hb)
            have F10 := Lib.hid (F9.out.below hb)
            have L10 := Lib.hid (L9.out.below hb)
            clear hb nq B9 X9 T9 G9 E9 Q9 K9 Du9 F9 L9
            go_wp2_with fail
            go_roundw
            case rel => exact ⟨j + 1, by go_num, by omega, B10.out, X10.out, T10.out, G10.out, E10.out, Q10.out, K10.out, Du10.out, F10.out, L10.out⟩
            case measure => simp [intOf]; omega
          · have hlj2 : ¬ (j : Int) < n5 := by omega
            go_upto_region 22 with fail
            clear cE0
            clear hlj2
            obtain ⟨b1, off1, y1, hA1, hy1, h11, h21, A1', n1', c1', hd1, c10, c11, c12, c13⟩ := at_ Q9.out hkn
            obtain rfl : u = y1 := Option.some.inj (HYu.out.symm.trans hy1)
            injection hA1 with hA1
            injection hA1 with hb1 ho1
            subst hb1
            subst ho1
            have da0 : ∀ m : Af wr, m.w.cell? ⟨bu, offu + kk * 4, none⟩ = some (.int .i64 u.1) := fun m => by rw [m.below.cell (World.block_lt_of_cell? _ _ c10)]; exact c10
            have da1 : ∀ m : Af wr, m.w.cell? ⟨bu, offu + kk * 4 + 1, none⟩ = some (.int .i64 u.2.1) := fun m => by rw [m.below.cell (World.block_lt_of_cell? _ _ c11)]; exact c11
            have da2 : ∀ m : Af wr, m.w.cell? ⟨bu, offu + kk * 4 + 2, none⟩ = some (.int .i64 u.2.2.1) := fun m => by rw [m.below.cell (World.block_lt_of_cell? _ _ c12)]; exact c12
            have da3 : ∀ m : Af wr, m.w.cell? ⟨bu, offu + kk * 4 + 3, none⟩ = some (.slice A1' n1' c1') := fun m => by rw [m.below.cell (World.block_lt_of_cell? _ _ c13)]; exact c13
            have HD1 := Lib.hid hd1
            clear c10 c11 c12 c13 hy1 hd1
            have hn3 := HN3.out
            have e1 : (n : Int) - 1 = (n3 : Int) := by omega
            have e2 : IntKind.i64.wrap (n3 : Int) = (n3 : Int) := IntWalk.i64_in _ (by omega)
            have hdk := HDK.out
            obtain ⟨s, hs⟩ : ∃ s : Int, (n : Int) - n5 = s := ⟨_, rfl⟩
            have e3 : d1 - d = s := by omega
            have e4 : IntKind.i64.wrap s = s := IntWalk.i64_in _ (by omega)
            clear hn3 hdk
            have qX0 : ∀ m : Af wr, m.w.cell? ⟨bx, 0, none⟩ = some (.slice (some ⟨bu, offu, none⟩) n c) := fun m => (Af.cells X9.out m).cell 0
            have qX1 : ∀ m : Af wr, m.w.cell? ⟨bx, 1, none⟩ = some (.int .i64 d) := fun m => (Af.cells X9.out m).cell 1
            have qT0 : ∀ m : Af wr, m.w.cell? ⟨bt, 0, none⟩ = some (.slice A3 n3 c3) := fun m => (Af.cells T9.out m).cell 0
            have qT1 : ∀ m : Af wr, m.w.cell? ⟨bt, 1, none⟩ = some (.int .i64 d) := fun m => (Af.cells T9.out m).cell 1
            have qE0 : ∀ m : Af wr, m.w.cell? ⟨qE, 0, none⟩ = some (.slice A5 n5 c5) := fun m => (Af.cells E9.out m).cell 0
            have qE1 : ∀ m : Af wr, m.w.cell? ⟨qE, 1, none⟩ = some (.int .i64 d1) := fun m => (Af.cells E9.out m).cell 1
            have qG0 : ∀ m : Af wr, m.w.cell? ⟨bt + 1, 0, none⟩ = some (.int .i64 u.1) := fun m => (Af.cells G9.out m).cell 0
            have qG1 : ∀ m : Af wr, m.w.cell? ⟨bt + 1, 1, none⟩ = some (.int .i64 u.2.1) := fun m => (Af.cells G9.out m).cell 1
            have qG2 : ∀ m : Af wr, m.w.cell? ⟨bt + 1, 2, none⟩ = some (.int .i64 u.2.2.1) := fun m => (Af.cells G9.out m).cell 2
            have qG3 : ∀ m : Af wr, m.w.cell? ⟨bt + 1, 3, none⟩ = some (.slice A4 n4 c4) := fun m => (Af.cells G9.out m).cell 3
            have qm := Lib.hid (fun m => sameM_yes u A4 n4 c4 A1' n1' c1' _ _ _ _ m.w (Af.rd F9.out m) (Af.rd HD1.out m) : ∀ m : Af wr, Calls Try.prog 20 #[mV u A4 n4 c4, mV u A1' n1' c1'] m.w fun e w' => e = .returned (.bool true) ∧ Below m.w.heap.size m.w w')
            refine region_after (by kernel_rfl) (by kernel_rfl) ?_
            repeat (go_big_quiet_step ((go_at_call 20; with_reducible exact Af.call (qm.out _))))
            refine wpQuiet_nil ?_
            intro _ hw'
            obtain ⟨nq, hw''⟩ := hw'
            subst hw''
            clear da0 da1 da2 da3 qm e1 e2 e3 e4 hs qX0 qX1 qT0 qT1 qE0 qE1 qG0 qG1 qG2 qG3
            obtain ⟨w10, hw5⟩ : ∃ w5, nq.w = w5 := ⟨_, rfl⟩
            have hb := nq.below
            rw [hw5] at hb
            (try rw [hw5])
            clear hw5
            have SS10 := Lib.hid hb.size
            have B10 := Lib.hid (B9.out.trans (hb.mono B9.out.size))
            have X10 := Lib.hid (X9.out.below hb)
            have T10 := Lib.hid (T9.out.below hb)
            have G10 := Lib.hid (G9.out.below hb)
            have E10 := Lib.hid (E9.out.below hb)
            have Q10 := Lib.hid (Q9.out.below hb)
            have K10 := Lib.hid (K9.out.below hb)
            have Du10 := Lib.hid (Du9.out.below hb)
            have F10 := Lib.hid (F9.out.below hb)
            have L10 := Lib.hid (L9.out.below hb)
            clear hb nq B9 X9 T9 G9 E9 Q9 K9 Du9 F9 L9
            go_wp2_with fail
            go_ret
            exact ⟨rfl, B10.out⟩
end Go.Proofs.Ytjmenbpalihnnaa.qorLaw
