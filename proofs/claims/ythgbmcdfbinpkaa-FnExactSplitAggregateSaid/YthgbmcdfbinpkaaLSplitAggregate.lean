/- The walk of FnExactSplitAggregate. Condition: none. -/
import Derived.Test.YthgbmcdfbinpkaaRcb
namespace Go.Proofs.Ythgbmcdfbinpkaa.xExactSplitAggregate
open Go.RowKit sl harn bx
set_option linter.unusedVariables false
set_option maxRecDepth 100000 in
set_option maxHeartbeats 4000000 in
theorem walk (A0 : Option Addr) (n0 c0 : Nat) (z0 : List Int) (w : World) (r0 : kit.IsRow .u8 w A0 n0 c0 z0) :
    Calls Try.prog 8 #[.slice A0 n0 c0] w fun e w' => e = .returned (.bool true) ∧ Below w.heap.size w w' := by
  have B1 := Lib.hid (Below.refl w.heap.size w)
  obtain ⟨x0, h0⟩ := sl.Rd.of_row r0
  clear r0
  have F2 := Lib.hid (show ux.RR ux.bytes w 0 w.heap.size (.slice A0 n0 c0) x0 from ux.num_rd h0)
  have HL0 := Lib.hid h0.len
  have hcp := h0.cap_
  clear h0
  by_cases hbig : 1048576 < n0
  · have hbI : (1048576 : Int) < n0 := by omega
    go_enter Try.func8, Try.ntmps8
    go_wp2_with fail
    go_ret
    exact ⟨rfl, Below.refl _ _⟩
  · have hbI : ¬ (1048576 : Int) < n0 := by omega
    have HN0 := Lib.hid (show n0 ≤ 67108864 by omega)
    have SA := Lib.hid (show ux.bytes.sz x0 ≤ 67108864 by have h1 : ux.bytes.sz x0 = x0.length := rfl; have h2 := HL0.out; omega)
    obtain ⟨l9, hl9⟩ : ∃ l, ag.split 8 x0 = l := ⟨_, rfl⟩
    have HX := Lib.hid hl9
    have SX := Lib.hid (show ux.rowB.sz l9 ≤ 67108864 by rw [← hl9]; exact ag.split_sz x0)
    clear hl9
    go_enter Try.func8, Try.ntmps8
    go_wp2_with fail
    (with_reducible refine (ux.toByteS F2.out SA.out).mono ?_)
    rintro e w3 hp
    obtain ⟨v8, fp7, rfl, ho, hb⟩ := hp.parts
    clear hp
    obtain ⟨A4, n5, c6, rfl⟩ := ux.bytes_slo ho.1
    have F9 := Lib.hid ho
    clear ho
    have B10 := Lib.hid (B1.out.trans (hb.mono B1.out.size))
    have Z11 := Lib.hid hb.size
    have F12 := Lib.hid (F2.out.below hb)
    clear hb B1 F2
    go_wp2_with fail
    (with_reducible refine (HX.out ▸ ag.specSp x0 _ _ A4 n5 c6 _ (ux.rd_of (F9.out.rd)) (by have h1 := (ux.rd_of (F9.out.rd)).len; have h2 := HL0.out; have h3 := HN0.out; omega)).mono ?_)
    rintro e w13 hp
    obtain ⟨A14, n15, c16, es17, rfl, g9, ho, hb⟩ := ag.bl_parts hp
    clear hp
    obtain ⟨fp18, ho2⟩ := ag.row_oo ho g9
    clear ho g9
    have F19 := Lib.hid ho2
    clear ho2
    have B20 := Lib.hid (B10.out.trans (hb.mono B10.out.size))
    have Z21 := Lib.hid hb.size
    have F22 := Lib.hid (F12.out.below hb)
    have F23 := Lib.hid (F9.out.below hb)
    clear hb B10 F12 F9
    clear F23
    go_wp2_with fail
    (with_reducible refine (ux.toByteS F22.out SA.out).mono ?_)
    rintro e w24 hp
    obtain ⟨v29, fp28, rfl, ho, hb⟩ := hp.parts
    clear hp
    obtain ⟨A25, n26, c27, rfl⟩ := ux.bytes_slo ho.1
    have F30 := Lib.hid ho
    clear ho
    have B31 := Lib.hid (B20.out.trans (hb.mono B20.out.size))
    have Z32 := Lib.hid hb.size
    have F33 := Lib.hid (F22.out.below hb)
    have F34 := Lib.hid (F19.out.below hb)
    clear hb B20 F22 F19
    go_wp2_with fail
    (with_reducible refine (HX.out ▸ ag.implSp x0 _ _ A25 n26 c27 _ (ux.rd_of (F30.out.rd)) (by have h1 := (ux.rd_of (F30.out.rd)).len; have h2 := HL0.out; have h3 := HN0.out; omega)).mono ?_)
    rintro e w35 hp
    obtain ⟨A36, n37, c38, es39, rfl, g9, ho, hb⟩ := ag.bl_parts hp
    clear hp
    obtain ⟨fp40, ho2⟩ := ag.row_oo ho g9
    clear ho g9
    have F41 := Lib.hid ho2
    clear ho2
    have B42 := Lib.hid (B31.out.trans (hb.mono B31.out.size))
    have Z43 := Lib.hid hb.size
    have F44 := Lib.hid (F33.out.below hb)
    have F45 := Lib.hid (F34.out.below hb)
    have F46 := Lib.hid (F30.out.below hb)
    clear hb B31 F33 F34 F30
    go_wp2_with fail
    (with_reducible refine (ux.eqByteSS F41.out.rd F45.out.rd).mono ?_)
    rintro e w47 hp
    obtain ⟨rfl, hb⟩ := bx.b_parts rfl hp
    clear hp
    have B48 := Lib.hid (B42.out.trans (hb.mono B42.out.size))
    have Z49 := Lib.hid hb.size
    have F50 := Lib.hid (F44.out.below hb)
    have F51 := Lib.hid (F45.out.below hb)
    have F52 := Lib.hid (F46.out.below hb)
    have F53 := Lib.hid (F41.out.below hb)
    clear hb B42 F44 F45 F46 F41
    go_wp2_with fail
    (with_reducible refine (ux.toByteS F50.out SA.out).mono ?_)
    rintro e w54 hp
    obtain ⟨v59, fp58, rfl, ho, hb⟩ := hp.parts
    clear hp
    obtain ⟨A55, n56, c57, rfl⟩ := ux.bytes_slo ho.1
    have F60 := Lib.hid ho
    clear ho
    have B61 := Lib.hid (B48.out.trans (hb.mono B48.out.size))
    have Z62 := Lib.hid hb.size
    have F63 := Lib.hid (F50.out.below hb)
    have F64 := Lib.hid (F51.out.below hb)
    have F65 := Lib.hid (F52.out.below hb)
    have F66 := Lib.hid (F53.out.below hb)
    clear hb B48 F50 F51 F52 F53
    go_wp2_with fail
    (with_reducible refine (ux.eqByteS F65.out.rd F60.out.rd).mono ?_)
    rintro e w67 hp
    obtain ⟨rfl, hb⟩ := bx.b_parts rfl hp
    clear hp
    have B68 := Lib.hid (B61.out.trans (hb.mono B61.out.size))
    have Z69 := Lib.hid hb.size
    have F70 := Lib.hid (F63.out.below hb)
    have F71 := Lib.hid (F64.out.below hb)
    have F72 := Lib.hid (F65.out.below hb)
    have F73 := Lib.hid (F66.out.below hb)
    have F74 := Lib.hid (F60.out.below hb)
    clear hb B61 F63 F64 F65 F66 F60
    clear F74
    go_wp2_with fail
    (with_reducible refine (ux.markByteS 1 F72.out (by have h1 := ag.bytes_bd x0; have h2 := (show (0:Int) ≤ 1 ∧ (1:Int) ≤ 4294967360 by omega); have h3 := SA.out; omega) SA.out).mono ?_)
    rintro e w75 hp
    obtain ⟨rfl, ho, hb⟩ := hp.parts
    clear hp
    obtain ⟨k1, hk9⟩ : ∃ k : Int, 1 + (ux.bytes.tot x0 : Nat) = k := ⟨_, rfl⟩
    have Hk1 := Lib.hid hk9
    have Kk1 := Lib.hid (show 0 ≤ k1 ∧ k1 ≤ 1 + 4294967360 by have h1 := ag.bytes_bd x0; have h2 := (show (0:Int) ≤ 1 ∧ (1:Int) ≤ 4294967360 by omega); have h3 := SA.out; omega)
    have ngk1 : ¬ k1 < 0 := by have := Kk1.out; omega
    (first | rw [hk9] | (change Code.wp _ _ _ _ _; rw [hk9]) | skip)
    clear hk9
    have F76 := Lib.hid ho
    clear ho
    have B77 := Lib.hid (B68.out.trans (ux.ks_bel hb (fun b hb => by have z0 := Z11.out; have z1 := Z21.out; have z2 := Z32.out; have z3 := Z43.out; have z4 := Z49.out; have z5 := Z62.out; have z6 := Z69.out; have zB := B68.out.size; have := F76.out.inn b hb; omega) B68.out.size))
    have Z78 := Lib.hid hb.size
    have F79 := Lib.hid (F70.out.ks hb (fun b h1 h2 h3 => by have z0 := Z11.out; have z1 := Z21.out; have z2 := Z32.out; have z3 := Z43.out; have z4 := Z49.out; have z5 := Z62.out; have z6 := Z69.out; have z7 := Z78.out; have q2 := F76.out.inn b h3; omega))
    have F80 := Lib.hid (F71.out.ks hb (fun b h1 h2 => by have z0 := Z11.out; have z1 := Z21.out; have z2 := Z32.out; have z3 := Z43.out; have z4 := Z49.out; have z5 := Z62.out; have z6 := Z69.out; have z7 := Z78.out; have q1 := F71.out.inn b h1; have q2 := F76.out.inn b h2; omega))
    have F81 := Lib.hid (F73.out.ks hb (fun b h1 h2 => by have z0 := Z11.out; have z1 := Z21.out; have z2 := Z32.out; have z3 := Z43.out; have z4 := Z49.out; have z5 := Z62.out; have z6 := Z69.out; have z7 := Z78.out; have q1 := F73.out.inn b h1; have q2 := F76.out.inn b h2; omega))
    clear hb B68 F70 F71 F73
    clear F72
    clear F76
    go_wp2_with fail
    (with_reducible refine (ux.eqByteSS F81.out.rd F80.out.rd).mono ?_)
    rintro e w82 hp
    obtain ⟨rfl, hb⟩ := bx.b_parts rfl hp
    clear hp
    have B83 := Lib.hid (B77.out.trans (hb.mono B77.out.size))
    have Z84 := Lib.hid hb.size
    have F85 := Lib.hid (F79.out.below hb)
    have F86 := Lib.hid (F80.out.below hb)
    have F87 := Lib.hid (F81.out.below hb)
    clear hb B77 F79 F80 F81
    go_wp2_with fail
    (with_reducible refine (ux.markByteSS 1 F87.out (by have h1 := ag.rowB_bd l9; have h2 := (show (0:Int) ≤ 1 ∧ (1:Int) ≤ 4294967360 by omega); have h3 := SX.out; omega) SX.out).mono ?_)
    rintro e w88 hp
    obtain ⟨rfl, ho, hb⟩ := hp.parts
    clear hp
    obtain ⟨k2, hk9⟩ : ∃ k : Int, 1 + (ux.rowB.tot l9 : Nat) = k := ⟨_, rfl⟩
    have Hk2 := Lib.hid hk9
    have Kk2 := Lib.hid (show 0 ≤ k2 ∧ k2 ≤ 1 + 4294967360 by have h1 := ag.rowB_bd l9; have h2 := (show (0:Int) ≤ 1 ∧ (1:Int) ≤ 4294967360 by omega); have h3 := SX.out; omega)
    have ngk2 : ¬ k2 < 0 := by have := Kk2.out; omega
    (first | rw [hk9] | (change Code.wp _ _ _ _ _; rw [hk9]) | skip)
    clear hk9
    have F89 := Lib.hid ho
    clear ho
    have B90 := Lib.hid (B83.out.trans (ux.ks_bel hb (fun b hb => by have z0 := Z11.out; have z1 := Z21.out; have z2 := Z32.out; have z3 := Z43.out; have z4 := Z49.out; have z5 := Z62.out; have z6 := Z69.out; have z7 := Z78.out; have z8 := Z84.out; have zB := B83.out.size; have := F89.out.inn b hb; omega) B83.out.size))
    have Z91 := Lib.hid hb.size
    have F92 := Lib.hid (F85.out.ks hb (fun b h1 h2 h3 => by have z0 := Z11.out; have z1 := Z21.out; have z2 := Z32.out; have z3 := Z43.out; have z4 := Z49.out; have z5 := Z62.out; have z6 := Z69.out; have z7 := Z78.out; have z8 := Z84.out; have z9 := Z91.out; have q2 := F89.out.inn b h3; omega))
    have F93 := Lib.hid (F86.out.ks hb (fun b h1 h2 => by have z0 := Z11.out; have z1 := Z21.out; have z2 := Z32.out; have z3 := Z43.out; have z4 := Z49.out; have z5 := Z62.out; have z6 := Z69.out; have z7 := Z78.out; have z8 := Z84.out; have z9 := Z91.out; have q1 := F86.out.inn b h1; have q2 := F89.out.inn b h2; omega))
    clear hb B83 F85 F86
    clear F87
    go_wp2_with fail
    (with_reducible refine (ux.heldByteSS 1 F89.out.rd (by have h1 := ag.rowB_bd l9; have h2 := (show (0:Int) ≤ 1 ∧ (1:Int) ≤ 4294967360 by omega); have h3 := SX.out; omega) SX.out).mono ?_)
    rintro e w94 hp
    obtain ⟨rfl, hb⟩ := bx.n_parts Hk2.out hp
    clear hp
    have B95 := Lib.hid (B90.out.trans (hb.mono B90.out.size))
    have Z96 := Lib.hid hb.size
    have F97 := Lib.hid (F92.out.below hb)
    have F98 := Lib.hid (F93.out.below hb)
    have F99 := Lib.hid (F89.out.below hb)
    clear hb B90 F92 F93 F89
    go_wp2_with fail
    (with_reducible refine (ux.toByteS F97.out SA.out).mono ?_)
    rintro e w100 hp
    obtain ⟨v105, fp104, rfl, ho, hb⟩ := hp.parts
    clear hp
    obtain ⟨A101, n102, c103, rfl⟩ := ux.bytes_slo ho.1
    have F106 := Lib.hid ho
    clear ho
    have B107 := Lib.hid (B95.out.trans (hb.mono B95.out.size))
    have Z108 := Lib.hid hb.size
    have F109 := Lib.hid (F97.out.below hb)
    have F110 := Lib.hid (F98.out.below hb)
    have F111 := Lib.hid (F99.out.below hb)
    clear hb B95 F97 F98 F99
    go_wp2_with fail
    (with_reducible refine (HX.out ▸ ag.implSp x0 _ _ A101 n102 c103 _ (ux.rd_of (F106.out.rd)) (by have h1 := (ux.rd_of (F106.out.rd)).len; have h2 := HL0.out; have h3 := HN0.out; omega)).mono ?_)
    rintro e w112 hp
    obtain ⟨A113, n114, c115, es116, rfl, g9, ho, hb⟩ := ag.bl_parts hp
    clear hp
    obtain ⟨fp117, ho2⟩ := ag.row_oo ho g9
    clear ho g9
    have F118 := Lib.hid ho2
    clear ho2
    have B119 := Lib.hid (B107.out.trans (hb.mono B107.out.size))
    have Z120 := Lib.hid hb.size
    have F121 := Lib.hid (F109.out.below hb)
    have F122 := Lib.hid (F110.out.below hb)
    have F123 := Lib.hid (F111.out.below hb)
    have F124 := Lib.hid (F106.out.below hb)
    clear hb B107 F109 F110 F111 F106
    clear F124
    go_wp2_with fail
    (with_reducible refine (ux.eqByteSS F118.out.rd F122.out.rd).mono ?_)
    rintro e w125 hp
    obtain ⟨rfl, hb⟩ := bx.b_parts rfl hp
    clear hp
    have B126 := Lib.hid (B119.out.trans (hb.mono B119.out.size))
    have Z127 := Lib.hid hb.size
    have F128 := Lib.hid (F121.out.below hb)
    have F129 := Lib.hid (F122.out.below hb)
    have F130 := Lib.hid (F123.out.below hb)
    have F131 := Lib.hid (F118.out.below hb)
    clear hb B119 F121 F122 F123 F118
    clear F131
    clear F129
    go_wp2_with fail
    (with_reducible refine (ux.heldByteSS 1 F130.out.rd (by have h1 := ag.rowB_bd l9; have h2 := (show (0:Int) ≤ 1 ∧ (1:Int) ≤ 4294967360 by omega); have h3 := SX.out; omega) SX.out).mono ?_)
    rintro e w132 hp
    obtain ⟨rfl, hb⟩ := bx.n_parts Hk2.out hp
    clear hp
    have B133 := Lib.hid (B126.out.trans (hb.mono B126.out.size))
    have Z134 := Lib.hid hb.size
    have F135 := Lib.hid (F128.out.below hb)
    have F136 := Lib.hid (F130.out.below hb)
    clear hb B126 F128 F130
    go_wp2_with fail
    go_ret
    exact ⟨rfl, B133.out⟩
end Go.Proofs.Ythgbmcdfbinpkaa.xExactSplitAggregate
